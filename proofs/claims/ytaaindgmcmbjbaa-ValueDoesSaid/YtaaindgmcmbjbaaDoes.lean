









/- What the walk of ValueDoes wants: the words as a row, shifts, and the relation that its choice leaves. No statement of the seat is proved here. -/
import Derived.Test.YtaaindgmcmbjbaaLaw29
namespace Go.Proofs.Ytaaindgmcmbjbaa
open Go.ChangeShapes Go.WideShapes Go.ChangeAt Go.RowKit
set_option linter.unusedVariables false
set_option linter.unusedSimpArgs false

def wordsA : Array Value := #[.string (wordK 0), .string (wordK 1), .string (wordK 2), .string (wordK 3), .string (wordK 4), .string (wordK 5), .string (wordK 6), .string (wordK 7), .string (wordK 8), .string (wordK 9), .string (wordK 10), .string (wordK 11), .string (wordK 12), .string (wordK 13), .string (wordK 14), .string (wordK 15)]
theorem bWords : BuiltS Try.prog 31 16 [(0, .string (wordK 0)), (1, .string (wordK 1)), (2, .string (wordK 2)), (3, .string (wordK 3)), (4, .string (wordK 4)), (5, .string (wordK 5)), (6, .string (wordK 6)), (7, .string (wordK 7)), (8, .string (wordK 8)), (9, .string (wordK 9)), (10, .string (wordK 10)), (11, .string (wordK 11)), (12, .string (wordK 12)), (13, .string (wordK 13)), (14, .string (wordK 14)), (15, .string (wordK 15))] 9 wordsA := ⟨fun w => by simp [go_sem, wordsA]⟩
theorem tStrV : OneTy Try.prog 9 := .of Try.underlying9 rfl (by kernel_rfl)
theorem words_at {k : Nat} (h : k ≤ 15) : wordsA.toList[k]? = some (.string (wordK k)) := by
  obtain rfl | rfl | rfl | rfl | rfl | rfl | rfl | rfl | rfl | rfl | rfl | rfl | rfl | rfl | rfl | rfl : k = 0 ∨ k = 1 ∨ k = 2 ∨ k = 3 ∨ k = 4 ∨ k = 5 ∨ k = 6 ∨ k = 7 ∨ k = 8 ∨ k = 9 ∨ k = 10 ∨ k = 11 ∨ k = 12 ∨ k = 13 ∨ k = 14 ∨ k = 15 := by omega
  all_goals rfl
theorem shl_eq (X : Int) (j : Nat) : cutZ (IntKind.i64.wrap (X * 2 ^ j)) = cutZ (X % 4294967296 * 2 ^ j % 4294967296) := by
  rw [cutZ_i64]
  have h : X % 4294967296 * 2 ^ j % 4294967296 = X * 2 ^ j % 4294967296 := by
    rw [Int.mul_emod, Int.emod_emod_of_dvd _ (Int.dvd_refl _), ← Int.mul_emod]
  rw [h]
  generalize X * 2 ^ j = Y
  unfold cutZ; omega
theorem val_int {k : IntKind} {a b : Int} (h : a = b) : Value.int k a = Value.int k b := by rw [h]
theorem pow_31 {j : Nat} (h : j ≤ 31) : (1 : Int) ≤ 2 ^ j ∧ (2 : Int) ^ j ≤ 2147483648 := by
  have h1 : 2 ^ j ≤ 2 ^ 31 := Nat.pow_le_pow_right (by decide) h
  have h2 : 0 < 2 ^ j := Nat.pow_pos (by decide)
  have e : ((2 ^ j : Nat) : Int) = (2 : Int) ^ j := by simp
  omega
theorem ge_res3 (X y : Int) : decide (0 ≤ y) = (resZ 3 X y).2 := by
  by_cases h : y < 0
  · have e : resZ 3 X y = (0, false) := if_pos h
    rw [e]; exact decide_eq_false (by omega)
  · have e : (resZ 3 X y).2 = true := congrArg Prod.snd (if_neg h)
    rw [e]; exact decide_eq_true (by omega)
theorem ge_res4 (X y : Int) : decide (0 ≤ y) = (resZ 4 X y).2 := by
  by_cases h : y < 0
  · have e : resZ 4 X y = (0, false) := if_pos h
    rw [e]; exact decide_eq_false (by omega)
  · have e : (resZ 4 X y).2 = true := congrArg Prod.snd (if_neg h)
    rw [e]; exact decide_eq_true (by omega)
theorem iStrV : (Try.prog.info? 9).map (·.size) = some 1 := by kernel_rfl
theorem fin_cut {a b : Int} (h : a = b) : cutZ a = cutZ b := by rw [h]
/-- What the choice leaves: what is wanted, whether it is, and whether it is a truth. -/
def XDo (w0 : World) (g k : Nat) (X y : Int) (v11 v12 v13 : Value) (wr : World) : Prop :=
  ∃ (want : Int) (ok yes : Bool), v11 = .int .i64 want ∧ v12 = .bool ok ∧ v13 = .bool yes ∧ ok = (resZ k X y).2 ∧ (ok = true → cutZ (if yes then -1 else want) = cutZ (resZ k X y).1) ∧ Own w0 wr [(g, wordsA, 9)]
end Go.Proofs.Ytaaindgmcmbjbaa
