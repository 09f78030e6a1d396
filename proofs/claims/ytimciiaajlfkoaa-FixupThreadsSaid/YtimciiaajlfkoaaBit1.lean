/- One bit of a number by 'and'. No statement of the seat is proved here. -/
import Derived.Test.YtimciiaajlfkoaaNum
namespace Go.Proofs.Ytimciiaajlfkoaa
open Go.ChangeShapes Go.WideShapes Go.ChangeAt Go.RowKit
set_option linter.unusedVariables false
set_option linter.unusedSimpArgs false

theorem nat_bit (x k : Nat) : x &&& 2 ^ k = x / 2 ^ k % 2 * 2 ^ k := by
  apply Nat.eq_of_testBit_eq
  intro i
  rw [Nat.testBit_and, Nat.testBit_two_pow]
  have hb : x.testBit k = decide (x / 2 ^ k % 2 = 1) := Nat.testBit_eq_decide_div_mod_eq
  have hlt : x / 2 ^ k % 2 < 2 := Nat.mod_lt _ (by decide)
  generalize x / 2 ^ k % 2 = y at *
  have hy : y = 0 ∨ y = 1 := by omega
  rcases hy with rfl | rfl
  · rw [Nat.zero_mul, Nat.zero_testBit]
    by_cases hk : k = i
    · subst hk; rw [hb]; simp
    · simp [hk]
  · rw [Nat.one_mul, Nat.testBit_two_pow]
    by_cases hk : k = i
    · subst hk; rw [hb]; simp
    · simp [hk]
theorem i64_and2 (n : Int) : bits .and .i64 n 2 = n / 2 % 2 * 2 := by
  have h3 : (BitVec.ofInt 64 2).toNat = 2 ^ 1 := by decide
  have key : (BitVec.ofInt 64 n &&& BitVec.ofInt 64 2).toNat = (n % ((2 ^ 64 : Nat) : Int)).toNat / 2 ^ 1 % 2 * 2 ^ 1 := by
    rw [BitVec.toNat_and, BitVec.toNat_ofInt, h3, nat_bit]
  show IntKind.i64.wrap ((BitVec.ofInt 64 n &&& BitVec.ofInt 64 2).toNat : Nat) = n / 2 % 2 * 2
  rw [key, IntKind.wrap_i64]
  omega
theorem i64_and4 (n : Int) : bits .and .i64 n 4 = n / 4 % 2 * 4 := by
  have h3 : (BitVec.ofInt 64 4).toNat = 2 ^ 2 := by decide
  have key : (BitVec.ofInt 64 n &&& BitVec.ofInt 64 4).toNat = (n % ((2 ^ 64 : Nat) : Int)).toNat / 2 ^ 2 % 2 * 2 ^ 2 := by
    rw [BitVec.toNat_and, BitVec.toNat_ofInt, h3, nat_bit]
  show IntKind.i64.wrap ((BitVec.ofInt 64 n &&& BitVec.ofInt 64 4).toNat : Nat) = n / 4 % 2 * 4
  rw [key, IntKind.wrap_i64]
  omega
end Go.Proofs.Ytimciiaajlfkoaa
