/- Contracts of bits.Low, bits.Even and of Ones of hansomref01. No statement of the seat is proved here. -/
import Derived.Test.YtpkobahelnopmaaRow
import Derived.Test.YtpkobahelnopmaaChecked
import Derived.Handy
import Derived.Deep.QuietTactic
import Derived.BigQuiet
import Derived.Lib.Hide
namespace Go.Proofs.Ytpkobahelnopmaa
open Go.ChangeShapes Go.WideShapes Go.ChangeAt Go.RowKit
set_option linter.unusedVariables false
set_option linter.unusedSimpArgs false

theorem ret_int2 {k l : IntKind} {a b c d : Int} (h : a = b) (h' : c = d) : Ending.returned (.tuple #[.int k a, .int l c]) = .returned (.tuple #[.int k b, .int l d]) := by rw [h, h']
theorem u16_quo (x y : Int) (h : 0 ≤ x ∧ x ≤ 65535 ∧ 1 ≤ y) : IntKind.u16.wrap (x.tdiv y) = x / y := by
  rw [Int.tdiv_eq_ediv_of_nonneg h.1]; have := IntWalk.tdiv_le x y h.1 h.2.2; exact IntWalk.u16_in _ (by omega)
theorem val_int {k : IntKind} {a b : Int} (h : a = b) : Value.int k a = Value.int k b := by rw [h]

set_option maxHeartbeats 400000 in
theorem low_any (x : Int) (w : World) (h0 : 0 ≤ x) (h1 : x ≤ 65535) :
    Calls Try.prog 31 #[.int .u16 x] w fun e w' => e = .returned (.int .u8 (x % 256)) ∧ w = w' := by
  go_enter Try.func31, Try.ntmps31
  go_wp2
  go_ret
  exact ⟨ret_int (by simp only [IntKind.wrap_u8]), rfl⟩

/-- How many ones a number has in its lowest m bits. -/
def onesZ : Nat → Int → Int
  | 0, _ => 0
  | m + 1, x => x % 2 + onesZ m (x / 2)

theorem onesZ_bd (m : Nat) : ∀ x : Int, 0 ≤ onesZ m x ∧ onesZ m x ≤ m := by
  induction m with
  | zero => intro x; simp [onesZ]
  | succ m ih => intro x; have := ih (x / 2); simp only [onesZ]; omega

set_option maxHeartbeats 400000 in
theorem ones_any (x : Int) (m : Nat) (w : World) (h0 : 0 ≤ x) (h1 : x ≤ 65535) (hm : m ≤ 1000) :
    Calls Try.prog 26 #[.int .u16 x, .int .i64 m] w fun e w' => e = .returned (.int .i64 (onesZ m x)) ∧ w = w' := by
  go_enter Try.func26, Try.ntmps26
  go_wp2
  go_loop [0, 5, 6] (fun n k i => ∃ (y z : Int) (j : Nat), j ≤ m ∧ 0 ≤ y ∧ y ≤ 65535 ∧ 0 ≤ z ∧ z ≤ j ∧ n = .int .u16 y ∧ k = .int .i64 z ∧ i = .int .i64 j ∧ z + onesZ (m - j) y = onesZ m x) (fun _ _ i => m - (intOf i).toNat)
  case atStart => exact ⟨x, 0, 0, by omega, by omega, by omega, by omega, by omega, rfl, rfl, rfl, by simp⟩
  case round =>
    obtain ⟨y, z, j, hj, hy0, hy1, hz0, hz1, rfl, rfl, rfl, hrel⟩ := hrel
    by_cases hlt : j < m
    · have H := Lib.hid hrel
      clear hrel
      go_wp2
      go_round
      case rel =>
        refine ⟨y / 2, z + y % 2, j + 1, by omega, by omega, by omega, by omega, by omega, val_int (u16_quo _ _ (by omega)), rfl, by go_num, ?_⟩
        have h := H.out
        rw [show m - j = (m - (j + 1)) + 1 from by omega] at h
        simp only [onesZ] at h
        omega
      case measure => simp [intOf]; omega
    · have H := Lib.hid hrel
      clear hrel
      go_wp2
      go_ret
      refine ⟨ret_int ?_, rfl⟩
      have h := H.out
      rw [show m - j = 0 from by omega] at h
      simpa [onesZ] using h

theorem even_fin : ∀ b : Fin 256, (bits .and .u8 (bits .xor .u8 (bits .xor .u8 (bits .xor .u8 (b.val : Int) ((b.val : Int) / 16)) (bits .xor .u8 (b.val : Int) ((b.val : Int) / 16) / 4)) (bits .xor .u8 (bits .xor .u8 (b.val : Int) ((b.val : Int) / 16)) (bits .xor .u8 (b.val : Int) ((b.val : Int) / 16) / 4) / 2)) 1 == 0) = decide (onesZ 8 (b.val : Int) % 2 = 0) := by decide +kernel

set_option maxHeartbeats 400000 in
theorem even_any (b : Int) (w : World) (h0 : 0 ≤ b) (h1 : b ≤ 255) :
    Calls Try.prog 41 #[.int .u8 b] w fun e w' => e = .returned (.bool (decide (onesZ 8 b % 2 = 0))) ∧ w = w' := by
  obtain ⟨n, rfl⟩ := Int.eq_ofNat_of_zero_le h0
  go_enter Try.func41, Try.ntmps41
  go_wp2
  go_ret
  exact ⟨ret_bool (even_fin ⟨n, by omega⟩), rfl⟩

end Go.Proofs.Ytpkobahelnopmaa
