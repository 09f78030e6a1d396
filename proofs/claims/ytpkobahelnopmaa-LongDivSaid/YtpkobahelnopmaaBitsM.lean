/- Contracts of bits.High, bits.Word and bits.Sign, beside those of BitsL. No statement of the seat is proved here. -/
import Derived.Test.YtpkobahelnopmaaBitsL
namespace Go.Proofs.Ytpkobahelnopmaa
open Go.ChangeShapes Go.WideShapes Go.ChangeAt Go.RowKit
set_option linter.unusedVariables false
set_option linter.unusedSimpArgs false

/-- A byte's sign, spread. -/
def signZ (b : Int) : Int := if b < 128 then b else 65280 + b
set_option maxHeartbeats 400000 in
theorem spreadB_any (b : Int) (w : World) (h0 : 0 ≤ b) (h1 : b ≤ 255) :
    Calls Try.prog 36 #[.int .u8 b] w fun e w' => e = .returned (.int .u16 (signZ b)) ∧ w = w' := by
  go_enter Try.func36, Try.ntmps36
  go_wp2
  go_ret
  refine ⟨ret_int ?_, rfl⟩
  simp only [IntKind.wrap, IntKind.bits, IntKind.signed, signZ]
  simp
  repeat' split
  all_goals omega
set_option maxHeartbeats 400000 in
theorem high_any (x : Int) (w : World) (h0 : 0 ≤ x) (h1 : x ≤ 65535) :
    Calls Try.prog 32 #[.int .u16 x] w fun e w' => e = .returned (.int .u8 (x / 256)) ∧ w = w' := by
  go_enter Try.func32, Try.ntmps32
  go_wp2
  go_ret
  exact ⟨ret_int (by first | rfl | (simp only [IntKind.wrap_u8]; omega)), rfl⟩
set_option maxHeartbeats 400000 in
theorem word_any (l h : Int) (w : World) (h0 : 0 ≤ l) (h1 : l ≤ 255) (h2 : 0 ≤ h) (h3 : h ≤ 255) :
    Calls Try.prog 33 #[.int .u8 l, .int .u8 h] w fun e w' => e = .returned (.int .u16 (h * 256 + l)) ∧ w = w' := by
  go_enter Try.func33, Try.ntmps33
  go_wp2
  go_ret
  refine ⟨ret_int ?_, rfl⟩
  rw [u16_or _ _ (by omega) (by omega) (by omega) (by omega), nat_join 8 _ _ (by omega) (by omega)]
  omega
end Go.Proofs.Ytpkobahelnopmaa
