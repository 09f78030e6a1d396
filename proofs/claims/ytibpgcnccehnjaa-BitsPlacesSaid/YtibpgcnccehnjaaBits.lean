/- Contracts of the functions of package bits, of its twin hansomref01 and of 'awake' of hansomlaw01: each returns the number that plain arithmetic gives and leaves the world as it was (but for new memory, where Digits and Hex make their texts). -/
import Derived.Test.YtibpgcnccehnjaaChecked
import Derived.WalkKit
import Derived.ProofKit
import Derived.Handy
import Derived.Deep.QuietTactic
import Derived.BigQuiet
import Derived.Lib.Hide
namespace Go.Proofs.Ytibpgcnccehnjaa
open Go.ChangeShapes Go.WideShapes Go.ChangeAt Go.RowKit

theorem ret_int {k : IntKind} {a b : Int} (h : a = b) : Ending.returned (.int k a) = .returned (.int k b) := by rw [h]
theorem ret_bool {a b : Bool} (h : a = b) : Ending.returned (.bool a) = .returned (.bool b) := by rw [h]
theorem ret_int2 {k l : IntKind} {a b c d : Int} (h : a = b) (h' : c = d) : Ending.returned (.tuple #[.int k a, .int l c]) = .returned (.tuple #[.int k b, .int l d]) := by rw [h, h']

theorem u16_quo (x y : Int) (h : 0 ≤ x ∧ x ≤ 65535 ∧ 1 ≤ y) : IntKind.u16.wrap (x.tdiv y) = x / y := by
  rw [Int.tdiv_eq_ediv_of_nonneg h.1]; have := IntWalk.tdiv_le x y h.1 h.2.2; exact IntWalk.u16_in _ (by omega)
theorem val_int {k : IntKind} {a b : Int} (h : a = b) : Value.int k a = Value.int k b := by rw [h]

/-- A byte's sign, spread. -/
def signZ (b : Int) : Int := if b < 128 then b else 65280 + b

set_option maxHeartbeats 400000 in
theorem sign_any (b : Int) (w : World) (h0 : 0 ≤ b) (h1 : b ≤ 255) :
    Calls Try.prog 7 #[.int .u8 b] w fun e w' => e = .returned (.int .u16 (signZ b)) ∧ w = w' := by
  go_enter Try.func7, Try.ntmps7
  go_wp2
  go_ret
  refine ⟨ret_int ?_, rfl⟩
  simp only [IntKind.wrap, IntKind.bits, IntKind.signed, signZ]
  simp
  repeat' split
  all_goals omega

set_option maxHeartbeats 400000 in
theorem signRef_any (b : Int) (w : World) (h0 : 0 ≤ b) (h1 : b ≤ 255) :
    Calls Try.prog 8 #[.int .u8 b] w fun e w' => e = .returned (.int .u16 (signZ b)) ∧ w = w' := by
  by_cases h : b < 128
  · rw [show signZ b = b from if_pos h]
    go_enter Try.func8, Try.ntmps8
    go_wp2
    go_ret
    exact ⟨rfl, rfl⟩
  · rw [show signZ b = 65280 + b from if_neg h]
    go_enter Try.func8, Try.ntmps8
    go_wp2
    go_ret
    exact ⟨rfl, rfl⟩

set_option maxHeartbeats 400000 in
theorem low_any (x : Int) (w : World) (h0 : 0 ≤ x) (h1 : x ≤ 65535) :
    Calls Try.prog 11 #[.int .u16 x] w fun e w' => e = .returned (.int .u8 (x % 256)) ∧ w = w' := by
  go_enter Try.func11, Try.ntmps11
  go_wp2
  go_ret
  exact ⟨ret_int (by simp only [IntKind.wrap_u8]), rfl⟩

set_option maxHeartbeats 400000 in
theorem high_any (x : Int) (w : World) (h0 : 0 ≤ x) (h1 : x ≤ 65535) :
    Calls Try.prog 12 #[.int .u16 x] w fun e w' => e = .returned (.int .u8 (x / 256)) ∧ w = w' := by
  go_enter Try.func12, Try.ntmps12
  go_wp2
  go_ret
  exact ⟨ret_int (by first | rfl | (simp only [IntKind.wrap_u8]; omega)), rfl⟩

set_option maxHeartbeats 400000 in
theorem word_any (l h : Int) (w : World) (h0 : 0 ≤ l) (h1 : l ≤ 255) (h2 : 0 ≤ h) (h3 : h ≤ 255) :
    Calls Try.prog 13 #[.int .u8 l, .int .u8 h] w fun e w' => e = .returned (.int .u16 (h * 256 + l)) ∧ w = w' := by
  go_enter Try.func13, Try.ntmps13
  go_wp2
  go_ret
  refine ⟨ret_int ?_, rfl⟩
  rw [u16_or _ _ (by omega) (by omega) (by omega) (by omega), nat_join 8 _ _ (by omega) (by omega)]
  omega

/-- Is a word a byte whose sign is spread? -/
def fitsZ (x : Int) : Bool := decide (x < 128 ∨ 65408 ≤ x)

theorem fits_iff (x : Int) (h0 : 0 ≤ x) (h1 : x ≤ 65535) : ((signZ (x % 256) == x) : Bool) = fitsZ x := by
  unfold signZ fitsZ
  rw [Bool.eq_iff_iff]
  simp only [beq_iff_eq, decide_eq_true_eq]
  split <;> omega

set_option maxHeartbeats 400000 in
theorem fits_any (x : Int) (w : World) (h0 : 0 ≤ x) (h1 : x ≤ 65535) :
    Calls Try.prog 9 #[.int .u16 x] w fun e w' => e = .returned (.bool (fitsZ x)) ∧ w = w' := by
  have hf := Lib.hid (fits_iff x h0 h1)
  go_enter Try.func9, Try.ntmps9
  go_wp2_with (first
    | (go_at_call 11; refine (low_any _ _ (by omega) (by omega)).mono ?_; rintro e w' ⟨rfl, rfl⟩)
    | (go_at_call 7; refine (sign_any _ _ (by omega) (by omega)).mono ?_; rintro e w' ⟨rfl, rfl⟩))
  go_ret
  exact ⟨ret_bool hf.out, rfl⟩

set_option maxHeartbeats 400000 in
theorem fitsRef_any (x : Int) (w : World) (h0 : 0 ≤ x) (h1 : x ≤ 65535) :
    Calls Try.prog 10 #[.int .u16 x] w fun e w' => e = .returned (.bool (fitsZ x)) ∧ w = w' := by
  by_cases h : x < 128
  · go_enter Try.func10, Try.ntmps10
    go_wp2
    go_ret
    exact ⟨ret_bool (by unfold fitsZ; simp; omega), rfl⟩
  · go_enter Try.func10, Try.ntmps10
    go_wp2
    go_ret
    exact ⟨ret_bool (by unfold fitsZ; rw [Bool.eq_iff_iff]; simp; omega), rfl⟩

/-- How many ones a number has in its lowest m bits. -/
def onesZ : Nat → Int → Int
  | 0, _ => 0
  | m + 1, x => x % 2 + onesZ m (x / 2)

theorem onesZ_bd (m : Nat) : ∀ x : Int, 0 ≤ onesZ m x ∧ onesZ m x ≤ m := by
  induction m with
  | zero => intro x; simp [onesZ]
  | succ m ih => intro x; have := ih (x / 2); simp only [onesZ]; omega

set_option maxHeartbeats 400000 in
theorem ones_any (x : Int) (m : Nat) (w : World) (h0 : 0 ≤ x) (h1 : x ≤ 65535) (hm : m ≤ 1000) :
    Calls Try.prog 15 #[.int .u16 x, .int .i64 m] w fun e w' => e = .returned (.int .i64 (onesZ m x)) ∧ w = w' := by
  go_enter Try.func15, Try.ntmps15
  go_wp2
  go_loop [0, 5, 6] (fun n k i => ∃ (y z : Int) (j : Nat), j ≤ m ∧ 0 ≤ y ∧ y ≤ 65535 ∧ 0 ≤ z ∧ z ≤ j ∧ n = .int .u16 y ∧ k = .int .i64 z ∧ i = .int .i64 j ∧ z + onesZ (m - j) y = onesZ m x) (fun _ _ i => m - (intOf i).toNat)
  case atStart => exact ⟨x, 0, 0, by omega, by omega, by omega, by omega, by omega, rfl, rfl, rfl, by simp⟩
  case round =>
    obtain ⟨y, z, j, hj, hy0, hy1, hz0, hz1, rfl, rfl, rfl, hrel⟩ := hrel
    by_cases hlt : j < m
    · have H := Lib.hid hrel
      clear hrel
      go_wp2
      go_round
      case rel =>
        refine ⟨y / 2, z + y % 2, j + 1, by omega, by omega, by omega, by omega, by omega, val_int (u16_quo _ _ (by omega)), rfl, by go_num, ?_⟩
        have h := H.out
        rw [show m - j = (m - (j + 1)) + 1 from by omega] at h
        simp only [onesZ] at h
        omega
      case measure => simp [intOf]; omega
    · have H := Lib.hid hrel
      clear hrel
      go_wp2
      go_ret
      refine ⟨ret_int ?_, rfl⟩
      have h := H.out
      rw [show m - j = 0 from by omega] at h
      simpa [onesZ] using h

theorem even_fin : ∀ b : Fin 256, (bits .and .u8 (bits .xor .u8 (bits .xor .u8 (bits .xor .u8 (b.val : Int) ((b.val : Int) / 16)) (bits .xor .u8 (b.val : Int) ((b.val : Int) / 16) / 4)) (bits .xor .u8 (bits .xor .u8 (b.val : Int) ((b.val : Int) / 16)) (bits .xor .u8 (b.val : Int) ((b.val : Int) / 16) / 4) / 2)) 1 == 0) = decide (onesZ 8 (b.val : Int) % 2 = 0) := by decide +kernel

set_option maxHeartbeats 400000 in
theorem even_any (b : Int) (w : World) (h0 : 0 ≤ b) (h1 : b ≤ 255) :
    Calls Try.prog 14 #[.int .u8 b] w fun e w' => e = .returned (.bool (decide (onesZ 8 b % 2 = 0))) ∧ w = w' := by
  obtain ⟨n, rfl⟩ := Int.eq_ofNat_of_zero_le h0
  go_enter Try.func14, Try.ntmps14
  go_wp2
  go_ret
  exact ⟨ret_bool (even_fin ⟨n, by omega⟩), rfl⟩

set_option maxHeartbeats 400000 in
theorem linear_any (s o : Int) (w : World) (h0 : 0 ≤ s) (h1 : s ≤ 65535) (h2 : 0 ≤ o) (h3 : o ≤ 65535) :
    Calls Try.prog 17 #[.int .u16 s, .int .u16 o] w fun e w' => e = .returned (.int .u32 ((s * 16 + o) % 1048576)) ∧ w = w' := by
  go_enter Try.func17, Try.ntmps17
  go_wp2
  go_ret
  exact ⟨rfl, rfl⟩

set_option maxHeartbeats 400000 in
theorem linearRef_any (s o : Int) (w : World) (h0 : 0 ≤ s) (h1 : s ≤ 65535) (h2 : 0 ≤ o) (h3 : o ≤ 65535) :
    Calls Try.prog 18 #[.int .u16 s, .int .u16 o] w fun e w' => e = .returned (.int .i64 ((s * 16 + o) % 1048576)) ∧ w = w' := by
  go_enter Try.func18, Try.ntmps18
  go_wp2
  go_ret
  exact ⟨rfl, rfl⟩

set_option maxHeartbeats 400000 in
theorem normal_any (a : Int) (w : World) (h0 : 0 ≤ a) (h1 : a ≤ 4294967295) :
    Calls Try.prog 16 #[.int .u32 a] w fun e w' => e = .returned (.tuple #[.int .u16 (a % 1048576 / 16), .int .u16 (a % 16)]) ∧ w = w' := by
  go_enter Try.func16, Try.ntmps16
  go_wp2
  go_ret2
  exact ⟨ret_int2 rfl (by first | rfl | omega), rfl⟩

/-- How many paragraphs so many bytes need. -/
def parasZ (n : Int) : Int := if n < 1 then 0 else (n - 1) / 16 + 1

set_option maxHeartbeats 400000 in
theorem paras_any (n : Int) (w : World) (h0 : -9223372036854775808 ≤ n) (h1 : n ≤ 9223372036854775807) :
    Calls Try.prog 20 #[.int .i64 n] w fun e w' => e = .returned (.int .i64 (parasZ n)) ∧ w = w' := by
  by_cases h : n < 1
  · rw [show parasZ n = 0 from if_pos h]
    go_enter Try.func20, Try.ntmps20
    go_wp2
    go_ret
    exact ⟨rfl, rfl⟩
  · rw [show parasZ n = (n - 1) / 16 + 1 from if_neg h]
    go_enter Try.func20, Try.ntmps20
    go_wp2
    go_ret
    exact ⟨rfl, rfl⟩

end Go.Proofs.Ytibpgcnccehnjaa
