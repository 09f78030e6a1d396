/- The contract of Do of hansomref08: the same as the program's. No statement of the seat is proved here. -/
import Derived.Test.YtmbkplfcjlhmaaaAluV
namespace Go.Proofs.Ytmbkplfcjlhmaaa
open Go.ChangeShapes Go.WideShapes Go.ChangeAt Go.RowKit
set_option linter.unusedVariables false
set_option linter.unusedSimpArgs false

set_option maxHeartbeats 8000000 in
theorem doR_false (name : Int) (a b : Nat) (wide : Bool) (w0 : World) (ha : a ≤ 65535) (hb : b ≤ 65535) :
    Calls Try.prog 7 #[.int .i64 name, .int .u16 a, .int .u16 b, .bool false, .bool wide] w0 fun e w' => e = .returned (.tuple #[.int .u16 (doV name wide false (cutN wide a) (cutN wide b) : Nat), .int .u16 (doF name wide false (cutN wide a) (cutN wide b) : Nat), .bool (doB name)]) ∧ Below w0.heap.size w0 w' := by
  have hR := Own.start w0
  have ca := cutN_le (wide := wide) ha
  have cb := cutN_le (wide := wide) hb
  have la := cutN_lt (wide := wide) ha
  have lb := cutN_lt (wide := wide) hb
  generalize hx : cutN wide a = x at *
  generalize hy : cutN wide b = y at *
  have hsg : (0 : Nat) ≤ 65535 := by decide
  rcases do_ways name with rfl | rfl | rfl | rfl | rfl | rfl | rfl | rfl | rfl | ⟨h1, h2, h3, h4, h5, h6, h7, h8, h9⟩
  · go_enter Try.func7, Try.ntmps7
    go_wp2_with (first
    | (go_at_call 11; refine (cutR_any _ _ _ (by omega)).mono ?_; rintro e w' ⟨rfl, rfl⟩; first | rw [hx] | rw [hy])
    | (go_at_call 12; refine (addR_any _ _ 0 _ _ la lb (by decide)).mono ?_; rintro e w' ⟨rfl, hb⟩; replace hR := hR.grow hb; clear hb)
    | (go_at_call 10; refine (signsR_any _ _ _ hsg).mono ?_; rintro e w' ⟨rfl, rfl⟩))
    go_ret3
    exact ⟨rfl, hR.below⟩
  · go_enter Try.func7, Try.ntmps7
    go_wp2_with (first
    | (go_at_call 11; refine (cutR_any _ _ _ (by omega)).mono ?_; rintro e w' ⟨rfl, rfl⟩; first | rw [hx] | rw [hy])
    | (go_at_call 12; refine (addR_any _ _ 0 _ _ la lb (by decide)).mono ?_; rintro e w' ⟨rfl, hb⟩; replace hR := hR.grow hb; clear hb)
    | (go_at_call 10; refine (signsR_any _ _ _ hsg).mono ?_; rintro e w' ⟨rfl, rfl⟩))
    go_ret3
    exact ⟨rfl, hR.below⟩
  · go_enter Try.func7, Try.ntmps7
    go_wp2_with (first
    | (go_at_call 11; refine (cutR_any _ _ _ (by omega)).mono ?_; rintro e w' ⟨rfl, rfl⟩; first | rw [hx] | rw [hy])
    | (go_at_call 13; refine (subR_any _ _ 0 _ _ la lb (by decide)).mono ?_; rintro e w' ⟨rfl, hb⟩; replace hR := hR.grow hb; clear hb)
    | (go_at_call 10; refine (signsR_any _ _ _ hsg).mono ?_; rintro e w' ⟨rfl, rfl⟩))
    go_ret3
    exact ⟨rfl, hR.below⟩
  · go_enter Try.func7, Try.ntmps7
    go_wp2_with (first
    | (go_at_call 11; refine (cutR_any _ _ _ (by omega)).mono ?_; rintro e w' ⟨rfl, rfl⟩; first | rw [hx] | rw [hy])
    | (go_at_call 13; refine (subR_any _ _ 0 _ _ la lb (by decide)).mono ?_; rintro e w' ⟨rfl, hb⟩; replace hR := hR.grow hb; clear hb)
    | (go_at_call 10; refine (signsR_any _ _ _ hsg).mono ?_; rintro e w' ⟨rfl, rfl⟩))
    go_ret3
    exact ⟨rfl, hR.below⟩
  · go_enter Try.func7, Try.ntmps7
    go_wp2_with (first
    | (go_at_call 11; refine (cutR_any _ _ _ (by omega)).mono ?_; rintro e w' ⟨rfl, rfl⟩; first | rw [hx] | rw [hy])
    | (go_at_call 13; refine (subR_any _ _ 0 _ _ la lb (by decide)).mono ?_; rintro e w' ⟨rfl, hb⟩; replace hR := hR.grow hb; clear hb)
    | (go_at_call 10; refine (signsR_any _ _ _ hsg).mono ?_; rintro e w' ⟨rfl, rfl⟩))
    go_ret3
    exact ⟨rfl, hR.below⟩
  · replace hsg := or_le ca cb
    revert hR
    intro hR
    go_enter Try.func7, Try.ntmps7
    go_wp2_with (first
    | (go_at_call 11; refine (cutR_any _ _ _ (by omega)).mono ?_; rintro e w' ⟨rfl, rfl⟩; first | rw [hx] | rw [hy])
    | (go_at_call 19; refine (each_or _ _ _ ca cb).mono ?_; rintro e w' ⟨rfl, hb⟩; replace hR := hR.grow hb; clear hb)
    | (go_at_call 10; refine (signsR_any _ _ _ hsg).mono ?_; rintro e w' ⟨rfl, rfl⟩))
    go_ret3
    exact ⟨rfl, hR.below⟩
  · replace hsg := and_le (x := x) cb
    go_enter Try.func7, Try.ntmps7
    go_wp2_with (first
    | (go_at_call 11; refine (cutR_any _ _ _ (by omega)).mono ?_; rintro e w' ⟨rfl, rfl⟩; first | rw [hx] | rw [hy])
    | (go_at_call 19; refine (each_and _ _ _ ca cb).mono ?_; rintro e w' ⟨rfl, hb⟩; replace hR := hR.grow hb; clear hb)
    | (go_at_call 10; refine (signsR_any _ _ _ hsg).mono ?_; rintro e w' ⟨rfl, rfl⟩))
    go_ret3
    exact ⟨rfl, hR.below⟩
  · replace hsg := and_le (x := x) cb
    go_enter Try.func7, Try.ntmps7
    go_wp2_with (first
    | (go_at_call 11; refine (cutR_any _ _ _ (by omega)).mono ?_; rintro e w' ⟨rfl, rfl⟩; first | rw [hx] | rw [hy])
    | (go_at_call 19; refine (each_and _ _ _ ca cb).mono ?_; rintro e w' ⟨rfl, hb⟩; replace hR := hR.grow hb; clear hb)
    | (go_at_call 10; refine (signsR_any _ _ _ hsg).mono ?_; rintro e w' ⟨rfl, rfl⟩))
    go_ret3
    exact ⟨rfl, hR.below⟩
  · replace hsg := xor_le ca cb
    go_enter Try.func7, Try.ntmps7
    go_wp2_with (first
    | (go_at_call 11; refine (cutR_any _ _ _ (by omega)).mono ?_; rintro e w' ⟨rfl, rfl⟩; first | rw [hx] | rw [hy])
    | (go_at_call 19; refine (each_xor _ _ _ ca cb).mono ?_; rintro e w' ⟨rfl, hb⟩; replace hR := hR.grow hb; clear hb)
    | (go_at_call 10; refine (signsR_any _ _ _ hsg).mono ?_; rintro e w' ⟨rfl, rfl⟩))
    go_ret3
    exact ⟨rfl, hR.below⟩
  · rw [show doB name = false by simp [doB, *], show doV name wide false x y = 0 by simp [doV, *], show doF name wide false x y = 0 by simp [doF, *]]
    go_enter Try.func7, Try.ntmps7
    go_wp2_with (first
    | (go_at_call 11; refine (cutR_any _ _ _ (by omega)).mono ?_; rintro e w' ⟨rfl, rfl⟩; first | rw [hx] | rw [hy]))
    go_ret3
    exact ⟨rfl, hR.below⟩
set_option maxHeartbeats 8000000 in
theorem doR_true (name : Int) (a b : Nat) (wide : Bool) (w0 : World) (ha : a ≤ 65535) (hb : b ≤ 65535) :
    Calls Try.prog 7 #[.int .i64 name, .int .u16 a, .int .u16 b, .bool true, .bool wide] w0 fun e w' => e = .returned (.tuple #[.int .u16 (doV name wide true (cutN wide a) (cutN wide b) : Nat), .int .u16 (doF name wide true (cutN wide a) (cutN wide b) : Nat), .bool (doB name)]) ∧ Below w0.heap.size w0 w' := by
  have hR := Own.start w0
  have ca := cutN_le (wide := wide) ha
  have cb := cutN_le (wide := wide) hb
  have la := cutN_lt (wide := wide) ha
  have lb := cutN_lt (wide := wide) hb
  generalize hx : cutN wide a = x at *
  generalize hy : cutN wide b = y at *
  have hsg : (0 : Nat) ≤ 65535 := by decide
  rcases do_ways name with rfl | rfl | rfl | rfl | rfl | rfl | rfl | rfl | rfl | ⟨h1, h2, h3, h4, h5, h6, h7, h8, h9⟩
  · go_enter Try.func7, Try.ntmps7
    go_wp2_with (first
    | (go_at_call 11; refine (cutR_any _ _ _ (by omega)).mono ?_; rintro e w' ⟨rfl, rfl⟩; first | rw [hx] | rw [hy])
    | (go_at_call 12; refine (addR_any _ _ 0 _ _ la lb (by decide)).mono ?_; rintro e w' ⟨rfl, hb⟩; replace hR := hR.grow hb; clear hb)
    | (go_at_call 10; refine (signsR_any _ _ _ hsg).mono ?_; rintro e w' ⟨rfl, rfl⟩))
    go_ret3
    exact ⟨rfl, hR.below⟩
  · go_enter Try.func7, Try.ntmps7
    go_wp2_with (first
    | (go_at_call 11; refine (cutR_any _ _ _ (by omega)).mono ?_; rintro e w' ⟨rfl, rfl⟩; first | rw [hx] | rw [hy])
    | (go_at_call 12; refine (addR_any _ _ 1 _ _ la lb (by decide)).mono ?_; rintro e w' ⟨rfl, hb⟩; replace hR := hR.grow hb; clear hb)
    | (go_at_call 10; refine (signsR_any _ _ _ hsg).mono ?_; rintro e w' ⟨rfl, rfl⟩))
    go_ret3
    exact ⟨rfl, hR.below⟩
  · go_enter Try.func7, Try.ntmps7
    go_wp2_with (first
    | (go_at_call 11; refine (cutR_any _ _ _ (by omega)).mono ?_; rintro e w' ⟨rfl, rfl⟩; first | rw [hx] | rw [hy])
    | (go_at_call 13; refine (subR_any _ _ 0 _ _ la lb (by decide)).mono ?_; rintro e w' ⟨rfl, hb⟩; replace hR := hR.grow hb; clear hb)
    | (go_at_call 10; refine (signsR_any _ _ _ hsg).mono ?_; rintro e w' ⟨rfl, rfl⟩))
    go_ret3
    exact ⟨rfl, hR.below⟩
  · go_enter Try.func7, Try.ntmps7
    go_wp2_with (first
    | (go_at_call 11; refine (cutR_any _ _ _ (by omega)).mono ?_; rintro e w' ⟨rfl, rfl⟩; first | rw [hx] | rw [hy])
    | (go_at_call 13; refine (subR_any _ _ 0 _ _ la lb (by decide)).mono ?_; rintro e w' ⟨rfl, hb⟩; replace hR := hR.grow hb; clear hb)
    | (go_at_call 10; refine (signsR_any _ _ _ hsg).mono ?_; rintro e w' ⟨rfl, rfl⟩))
    go_ret3
    exact ⟨rfl, hR.below⟩
  · go_enter Try.func7, Try.ntmps7
    go_wp2_with (first
    | (go_at_call 11; refine (cutR_any _ _ _ (by omega)).mono ?_; rintro e w' ⟨rfl, rfl⟩; first | rw [hx] | rw [hy])
    | (go_at_call 13; refine (subR_any _ _ 1 _ _ la lb (by decide)).mono ?_; rintro e w' ⟨rfl, hb⟩; replace hR := hR.grow hb; clear hb)
    | (go_at_call 10; refine (signsR_any _ _ _ hsg).mono ?_; rintro e w' ⟨rfl, rfl⟩))
    go_ret3
    exact ⟨rfl, hR.below⟩
  · replace hsg := or_le ca cb
    revert hR
    intro hR
    go_enter Try.func7, Try.ntmps7
    go_wp2_with (first
    | (go_at_call 11; refine (cutR_any _ _ _ (by omega)).mono ?_; rintro e w' ⟨rfl, rfl⟩; first | rw [hx] | rw [hy])
    | (go_at_call 19; refine (each_or _ _ _ ca cb).mono ?_; rintro e w' ⟨rfl, hb⟩; replace hR := hR.grow hb; clear hb)
    | (go_at_call 10; refine (signsR_any _ _ _ hsg).mono ?_; rintro e w' ⟨rfl, rfl⟩))
    go_ret3
    exact ⟨rfl, hR.below⟩
  · replace hsg := and_le (x := x) cb
    go_enter Try.func7, Try.ntmps7
    go_wp2_with (first
    | (go_at_call 11; refine (cutR_any _ _ _ (by omega)).mono ?_; rintro e w' ⟨rfl, rfl⟩; first | rw [hx] | rw [hy])
    | (go_at_call 19; refine (each_and _ _ _ ca cb).mono ?_; rintro e w' ⟨rfl, hb⟩; replace hR := hR.grow hb; clear hb)
    | (go_at_call 10; refine (signsR_any _ _ _ hsg).mono ?_; rintro e w' ⟨rfl, rfl⟩))
    go_ret3
    exact ⟨rfl, hR.below⟩
  · replace hsg := and_le (x := x) cb
    go_enter Try.func7, Try.ntmps7
    go_wp2_with (first
    | (go_at_call 11; refine (cutR_any _ _ _ (by omega)).mono ?_; rintro e w' ⟨rfl, rfl⟩; first | rw [hx] | rw [hy])
    | (go_at_call 19; refine (each_and _ _ _ ca cb).mono ?_; rintro e w' ⟨rfl, hb⟩; replace hR := hR.grow hb; clear hb)
    | (go_at_call 10; refine (signsR_any _ _ _ hsg).mono ?_; rintro e w' ⟨rfl, rfl⟩))
    go_ret3
    exact ⟨rfl, hR.below⟩
  · replace hsg := xor_le ca cb
    go_enter Try.func7, Try.ntmps7
    go_wp2_with (first
    | (go_at_call 11; refine (cutR_any _ _ _ (by omega)).mono ?_; rintro e w' ⟨rfl, rfl⟩; first | rw [hx] | rw [hy])
    | (go_at_call 19; refine (each_xor _ _ _ ca cb).mono ?_; rintro e w' ⟨rfl, hb⟩; replace hR := hR.grow hb; clear hb)
    | (go_at_call 10; refine (signsR_any _ _ _ hsg).mono ?_; rintro e w' ⟨rfl, rfl⟩))
    go_ret3
    exact ⟨rfl, hR.below⟩
  · rw [show doB name = false by simp [doB, *], show doV name wide true x y = 0 by simp [doV, *], show doF name wide true x y = 0 by simp [doF, *]]
    go_enter Try.func7, Try.ntmps7
    go_wp2_with (first
    | (go_at_call 11; refine (cutR_any _ _ _ (by omega)).mono ?_; rintro e w' ⟨rfl, rfl⟩; first | rw [hx] | rw [hy]))
    go_ret3
    exact ⟨rfl, hR.below⟩
theorem doR_any (name : Int) (a b : Nat) (carry wide : Bool) (w0 : World) (ha : a ≤ 65535) (hb : b ≤ 65535) :
    Calls Try.prog 7 #[.int .i64 name, .int .u16 a, .int .u16 b, .bool carry, .bool wide] w0 fun e w' => e = .returned (.tuple #[.int .u16 (doV name wide carry (cutN wide a) (cutN wide b) : Nat), .int .u16 (doF name wide carry (cutN wide a) (cutN wide b) : Nat), .bool (doB name)]) ∧ Below w0.heap.size w0 w' := by
  cases carry
  · exact doR_false name a b wide w0 ha hb
  · exact doR_true name a b wide w0 ha hb
end Go.Proofs.Ytmbkplfcjlhmaaa
