




/- 'awake' of hansomlaw09; Shift of hansomref08 of any of its names; four words as a law's argument. Over ShiftD, which has the contract of shift.Do ('shiftDo_any', 'shiftDo_not'). No statement of the seat is proved here. -/
import Derived.Test.YtcplcjfkehogkaaShiftD
import Derived.Test.YtcplcjfkehogkaaShiftM
import Derived.Test.YtcplcjfkehogkaaShiftA
import Derived.Test.YtcplcjfkehogkaaShiftB
import Derived.Test.YtcplcjfkehogkaaShiftC
import Derived.Test.YtcplcjfkehogkaaSame
namespace Go.Proofs.Ytcplcjfkehogkaa
open Go.ChangeShapes Go.WideShapes Go.ChangeAt Go.RowKit
set_option linter.unusedVariables false
set_option linter.unusedSimpArgs false

theorem tWordL : OneTy Try.prog 22 := .of Try.underlying22 rfl (by kernel_rfl)
def encFour (a b c d : Nat) : Array Value := #[.int .u16 a, .int .u16 b, .int .u16 c, .int .u16 d]
theorem open_four {w : World} {base : Nat} {x : Value} (h : Value.okWide Try.prog w .any base 23 x) :
    ∃ a b c d : Nat, a ≤ 65535 ∧ b ≤ 65535 ∧ c ≤ 65535 ∧ d ≤ 65535 ∧ x = .agg (encFour a b c d) := by
  obtain ⟨cs, rfl, hl, hc⟩ := open_flat (ts := [22, 22, 22, 22]) Try.underlying23 rfl (by kernel_rfl) (by kernel_rfl) h
  match cs, hl with
  | [c0, c1, c2, c3], _ =>
    obtain ⟨n0, rfl, b0⟩ := cell_int Try.underlying22 (hc 0 _ _ rfl rfl)
    obtain ⟨n1, rfl, b1⟩ := cell_int Try.underlying22 (hc 1 _ _ rfl rfl)
    obtain ⟨n2, rfl, b2⟩ := cell_int Try.underlying22 (hc 2 _ _ rfl rfl)
    obtain ⟨n3, rfl, b3⟩ := cell_int Try.underlying22 (hc 3 _ _ rfl rfl)
    obtain ⟨l0, u0⟩ : 0 ≤ n0 ∧ n0 ≤ 65535 := b0
    obtain ⟨l1, u1⟩ : 0 ≤ n1 ∧ n1 ≤ 65535 := b1
    obtain ⟨l2, u2⟩ : 0 ≤ n2 ∧ n2 ≤ 65535 := b2
    obtain ⟨l3, u3⟩ : 0 ≤ n3 ∧ n3 ≤ 65535 := b3
    obtain ⟨a, rfl⟩ := Int.eq_ofNat_of_zero_le l0
    obtain ⟨b, rfl⟩ := Int.eq_ofNat_of_zero_le l1
    obtain ⟨c, rfl⟩ := Int.eq_ofNat_of_zero_le l2
    obtain ⟨d, rfl⟩ := Int.eq_ofNat_of_zero_le l3
    exact ⟨a, b, c, d, by omega, by omega, by omega, by omega, rfl⟩
theorem shiftR_any (nm x n was : Nat) (wide : Bool) (w0 : World) (h1 : 63 ≤ nm) (h2 : nm ≤ 69) (hx : x ≤ 65535) (hn : n ≤ 255) (hw : was ≤ 65535) :
    Calls Try.prog 7 #[.int .i64 nm, .int .u16 x, .int .i64 n, .int .u16 was, .bool wide] w0 fun e w' => e = .returned (.tuple #[.int .u16 (shV nm wide x n was : Nat), .int .u16 (shF nm wide x n was)]) ∧ Below w0.heap.size w0 w' := by
  rcases (by omega : nm = 63 ∨ nm = 64 ∨ nm = 65 ∨ nm = 66 ∨ nm = 67 ∨ nm = 68 ∨ nm = 69) with rfl | rfl | rfl | rfl | rfl | rfl | rfl
  · exact shiftR_63 x n was wide w0 hx hn hw
  · exact shiftR_64 x n was wide w0 hx hn hw
  · exact shiftR_65 x n was wide w0 hx hn hw
  · exact shiftR_66 x n was wide w0 hx hn hw
  · exact shiftR_67 x n was wide w0 hx hn hw
  · exact shiftR_68 x n was wide w0 hx hn hw
  · exact shiftR_69 x n was wide w0 hx hn hw
theorem shiftDo_at {name z : Int} (nm v n was : Nat) (wide : Bool) (w : World) (e1 : name = nm) (e2 : z = n) (h1 : 63 ≤ nm) (h2 : nm ≤ 69) (hv : v ≤ 65535) (hn : n ≤ 255) (hw : was ≤ 65535) :
    Calls Try.prog 6 #[.int .i64 name, .int .u16 v, .int .u8 z, .int .u16 was, .bool wide] w fun e w' => e = .returned (.tuple #[.int .u16 (shV nm wide v n was : Nat), .int .u16 (shF nm wide v n was), .bool true]) ∧ Below w.heap.size w w' := by
  subst e1 e2; exact shiftDo_any nm v n was wide w h1 h2 hv hn hw
theorem shiftR_at {name z : Int} (nm v n was : Nat) (wide : Bool) (w : World) (e1 : name = nm) (e2 : z = n) (h1 : 63 ≤ nm) (h2 : nm ≤ 69) (hv : v ≤ 65535) (hn : n ≤ 255) (hw : was ≤ 65535) :
    Calls Try.prog 7 #[.int .i64 name, .int .u16 v, .int .i64 z, .int .u16 was, .bool wide] w fun e w' => e = .returned (.tuple #[.int .u16 (shV nm wide v n was : Nat), .int .u16 (shF nm wide v n was)]) ∧ Below w.heap.size w w' := by
  subst e1 e2; exact shiftR_any nm v n was wide w h1 h2 hv hn hw
theorem shift_one (w : World) : Calls Try.prog 6 #[.int .i64 67, .int .u16 128, .int .u8 1, .int .u16 0, .bool false] w fun e w' => e = .returned (.tuple #[.int .u16 0, .int .u16 2117, .bool true]) ∧ Below w.heap.size w w' := by
  have h := shiftDo_any 67 128 1 0 false w (by decide) (by decide) (by decide) (by decide) (by decide)
  rw [show shV 67 false 128 1 0 = 0 by decide +kernel, show shF 67 false 128 1 0 = 2117 by decide +kernel] at h
  exact h
set_option maxHeartbeats 400000 in
theorem awake09_any (w0 : World) :
    Calls Try.prog 8 #[] w0 fun e w' => e = .returned (.bool true) ∧ Below w0.heap.size w0 w' := by
  have hR := Own.start w0
  go_enter Try.func8, Try.ntmps8
  go_wp2_with (first
    | (go_at_call 6; refine (shift_one _).mono ?_; rintro e w' ⟨rfl, hb⟩; replace hR := hR.grow hb; clear hb))
  go_ret
  exact ⟨rfl, hR.below⟩
end Go.Proofs.Ytcplcjfkehogkaa
