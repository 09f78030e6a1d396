







/- The contracts of package lex's tests on letters. No statement of the seat is proved here. -/
import Derived.Test.YtjecckmcjcikdaaDoorLexM
import Derived.Test.YtjecckmcjcikdaaDoorChecked
import Derived.Lib.Bytealg
import Derived.Test.YtjecckmcjcikdaaDoorMark
namespace Go.Proofs.YtjecckmcjcikdaaDoor
open Go.ChangeShapes Go.WideShapes Go.ChangeAt Go.RowKit
set_option linter.unusedVariables false
set_option linter.unusedSimpArgs false

theorem digitL_any (r : Int) (w0 : World) : Calls Tryd.prog 28 #[.int .i32 r] w0 fun e w' => e = .returned (.bool (digitZ r)) ∧ w' = w0 := by
  go_enter Tryd.func28, Tryd.ntmps28
  go_wp2_with fail
  all_goals go_ret
  all_goals refine ⟨?_, rfl⟩
  all_goals simp_all [digitZ]
  all_goals first | done | (intros; omega) | (constructor <;> intros <;> omega) | (rw [Bool.eq_iff_iff]; simp; omega)
theorem letterL_any (r : Int) (w0 : World) : Calls Tryd.prog 42 #[.int .i32 r] w0 fun e w' => e = .returned (.bool (letterZ r)) ∧ w' = w0 := by
  go_enter Tryd.func42, Tryd.ntmps42
  go_wp2_with fail
  all_goals go_ret
  all_goals refine ⟨?_, rfl⟩
  all_goals simp_all [letterZ]
  all_goals first | done | (intros; omega) | (constructor <;> intros <;> omega) | (rw [Bool.eq_iff_iff]; simp; omega)
theorem readL_any (r : Int) (w0 : World) : Calls Tryd.prog 21 #[.int .i32 r] w0 fun e w' => e = .returned (.bool (readZ r)) ∧ w' = w0 := by
  go_enter Tryd.func21, Tryd.ntmps21
  go_wp2_with fail
  all_goals go_ret
  all_goals refine ⟨?_, rfl⟩
  all_goals simp_all [readZ]
  all_goals first | done | (intros; omega) | (constructor <;> intros <;> omega) | (rw [Bool.eq_iff_iff]; simp; omega)
theorem countL_any (r : Int) (w0 : World) : Calls Tryd.prog 36 #[.int .i32 r] w0 fun e w' => e = .returned (.bool (countZ r)) ∧ w' = w0 := by
  have hR := Own.start w0
  go_enter Tryd.func36, Tryd.ntmps36
  go_wp2_with (first
    | (go_at_call 28; refine (digitL_any _ _).mono ?_; rintro e w' ⟨rfl, rfl⟩)
    | (go_at_call 42; refine (letterL_any _ _).mono ?_; rintro e w' ⟨rfl, rfl⟩))
  all_goals go_ret
  all_goals refine ⟨?_, rfl⟩
  all_goals simp_all [countZ]
/-! ### Where a byte stands -/
theorem indexB_eq {s : List Int} (hs : bytesOk s) {c : Int} (hc : 0 ≤ c ∧ c ≤ 255) : Lib.indexByte (strOfNums s).data.toList c.toNat.toUInt8 = idxB s c := by
  rw [strOfNums_data]
  induction s with
  | nil => rfl
  | cons b l ih =>
    have hb := hs b (.head _)
    have ih := ih fun x hx => hs x (.tail _ hx)
    rw [List.map_cons]
    unfold Lib.indexByte idxB
    rw [ih]
    have he : (UInt8.ofNat b.toNat == c.toNat.toUInt8) = decide (b = c) := by
      rw [Bool.eq_iff_iff, beq_iff_eq, decide_eq_true_iff]
      constructor
      · intro h
        have := congrArg UInt8.toNat h
        simp at this
        omega
      · rintro rfl; rfl
    rw [he]
    by_cases h1 : b = c
    · simp [h1]
    · simp [h1]
set_option maxHeartbeats 1000000 in
set_option maxRecDepth 100000 in
theorem indexLite_any {s : List Int} (hs : bytesOk s) {x : Int} (hx : 0 ≤ x ∧ x ≤ 255) (w0 : World) : Calls Tryd.prog 44 #[.string (strOfNums s), .int .u8 x] w0 fun e w' => e = .returned (.int .i64 (idxB s x)) ∧ w' = w0 := by
  have h := indexB_eq hs hx
  go_enter Tryd.func44, Tryd.ntmps44
  go_wp2
  rw [run_callFunc_extern Tryd.func50 (by kernel_rfl) (by kernel_rfl) (by kernel_rfl) (e := Extern.BytealgIndexByte.indexByte) (by kernel_rfl), Lib.run_indexByteString]
  simp only [Result.andThen]
  rw [Oper.upon_value]
  go_wp2
  go_ret
  exact ⟨rfl, rfl⟩
theorem indexByteL_any {s : List Int} (hs : bytesOk s) {x : Int} (hx : 0 ≤ x ∧ x ≤ 255) (w0 : World) : Calls Tryd.prog 38 #[.string (strOfNums s), .int .u8 x] w0 fun e w' => e = .returned (.int .i64 (idxB s x)) ∧ w' = w0 := by
  go_enter Tryd.func38, Tryd.ntmps38
  go_wp2_with (first
    | (go_at_call 44; refine (indexLite_any hs hx _).mono ?_; rintro e w' ⟨rfl, rfl⟩))
  go_ret
  exact ⟨rfl, rfl⟩
set_option maxRecDepth 100000 in
/-- At a letter below 128. -/
theorem indexRune_any {s : List Int} (hs : bytesOk s) {r : Int} (hr : 0 ≤ r ∧ r ≤ 127) (w0 : World) : Calls Tryd.prog 40 #[.string (strOfNums s), .int .i32 r] w0 fun e w' => e = .returned (.int .i64 (idxB s r)) ∧ w' = w0 := by
  have hR := Own.start w0
  go_enter Tryd.func40, Tryd.ntmps40
  have HA := Lib.hid (show cmpB .leq 0 r = some true from congrArg some (decide_eq_true hr.1))
  have HB := Lib.hid (show cmpB .lss r 128 = some true from congrArg some (decide_eq_true (by omega)))
  go_wp2_with (first
    | ((with_reducible apply q_ls0); exact rfl; (with_reducible apply t_cmp (op := .leq)); (apply EvC.now; exact rfl); (apply EvC.now; exact rfl); exact HA.out; (simp only [List.set_cons_succ, List.set_cons_zero]; exact rfl))
    | ((with_reducible apply q_ls0); exact rfl; (with_reducible apply t_cmp (op := .lss)); (apply EvC.now; exact rfl); (apply EvC.now; exact rfl); exact HB.out; (simp only [List.set_cons_succ, List.set_cons_zero]; exact rfl))
    | ((with_reducible apply q_ls0); exact rfl; (with_reducible apply t_conv Tryd.underlying21 Tryd.underlying5); (apply EvC.now; exact rfl); (exact IntWalk.u8_in _ (by omega)); (simp only [List.set_cons_succ, List.set_cons_zero]; exact rfl))
    | (go_at_call 38; refine (indexByteL_any hs (by omega) _).mono ?_; rintro e w' ⟨rfl, rfl⟩))
  go_ret
  exact ⟨rfl, rfl⟩
theorem hasL_any {s : List Int} (hs : bytesOk s) {r : Int} (hr : 0 ≤ r ∧ r ≤ 127) (w0 : World) : Calls Tryd.prog 33 #[.string (strOfNums s), .int .i32 r] w0 fun e w' => e = .returned (.bool (hasB s r)) ∧ w' = w0 := by
  go_enter Tryd.func33, Tryd.ntmps33
  go_wp2_with (first
    | (go_at_call 40; refine (indexRune_any hs hr _).mono ?_; rintro e w' ⟨rfl, rfl⟩))
  go_ret
  exact ⟨rfl, rfl⟩
theorem marksZ_ok : bytesOk marksZ := ascii.ok (ascii_of rfl)
theorem namedL_any {r : Int} (hr : 0 ≤ r ∧ r ≤ 127) (w0 : World) : Calls Tryd.prog 30 #[.int .i32 r] w0 fun e w' => e = .returned (.bool (namedZ r)) ∧ w' = w0 := by
  go_enter Tryd.func30, Tryd.ntmps30
  go_wp2_with (first
    | (go_at_call 36; refine (countL_any _ _).mono ?_; rintro e w' ⟨rfl, rfl⟩)
    | (go_at_call 33; refine (hasL_any (s := marksZ) marksZ_ok hr _).mono ?_; rintro e w' ⟨rfl, rfl⟩))
  all_goals go_ret
  all_goals refine ⟨?_, rfl⟩
  all_goals simp_all [namedZ]
end Go.Proofs.YtjecckmcjcikdaaDoor
