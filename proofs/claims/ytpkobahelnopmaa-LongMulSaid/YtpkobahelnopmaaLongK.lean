/- Decimal digits: what the law of layer 10 reckons of AX and the flags, in plain arithmetic. No walk is here, and no statement of the seat is proved here. -/
import Derived.Test.YtpkobahelnopmaaLongM
namespace Go.Proofs.Ytpkobahelnopmaa
open Go Go.RowKit
set_option linter.unusedVariables false
set_option linter.unusedSimpArgs false

theorem i64_and3 (n : Int) : bits .and .i64 n 3 = n % 4 := by
  have h3 : (BitVec.ofInt 64 3).toNat = 2 ^ 2 - 1 := by decide
  have key : (BitVec.ofInt 64 n &&& BitVec.ofInt 64 3).toNat = (n % ((2 ^ 64 : Nat) : Int)).toNat % 2 ^ 2 := by
    rw [BitVec.toNat_and, BitVec.toNat_ofInt, h3, Nat.and_two_pow_sub_one_eq_mod]
  show IntKind.i64.wrap ((BitVec.ofInt 64 n &&& BitVec.ofInt 64 3).toNat : Nat) = n % 4
  rw [key, IntKind.wrap_i64]
  omega
theorem name_ways (k : Int) : ∃ nm : Nat, 11 ≤ nm ∧ nm ≤ 14 ∧ wrap64 (11 + bits .and .i64 k 3) = (nm : Int) := by
  rw [i64_and3]
  refine ⟨(11 + k % 4).toNat, by omega, by omega, ?_⟩
  rw [IntWalk.wrap64_in _ (by omega)]; omega
theorem and_16 {was : Nat} (h : was ≤ 65535) : decide (0 < bits .and .u16 (was : Int) 16) = onB was 4 := by
  have e : bits .and .u16 (was : Int) 16 = (was &&& 16 : Nat) := u16_and_nat was 16 (by omega) (by decide)
  have h2 := and_on was 4
  rw [show (2 : Nat) ^ 4 = 16 from rfl] at h2
  rw [e, show decide ((0 : Int) < ((was &&& 16 : Nat) : Int)) = !decide (was &&& 16 = 0) by rw [← decide_not]; exact decide_eq_decide.2 (by omega), h2, Bool.not_not]
theorem and_1 {was : Nat} (h : was ≤ 65535) : decide (0 < bits .and .u16 (was : Int) 1) = onB was 0 := by
  have e : bits .and .u16 (was : Int) 1 = (was &&& 1 : Nat) := u16_and_nat was 1 (by omega) (by decide)
  have h2 := and_on was 0
  rw [show (2 : Nat) ^ 0 = 1 from rfl] at h2
  rw [e, show decide ((0 : Int) < ((was &&& 1 : Nat) : Int)) = !decide (was &&& 1 = 0) by rw [← decide_not]; exact decide_eq_decide.2 (by omega), h2, Bool.not_not]
theorem half_int (ax : Nat) {was : Nat} (h : was ≤ 65535) : (decide (9 < (ax : Int) % 256 % 16) || decide (0 < bits .and .u16 (was : Int) 16)) = halfN ax was := by
  rw [and_16 h]
  unfold halfN
  rw [show decide (9 < (ax : Int) % 256 % 16) = decide (9 < ax % 16) from decide_eq_decide.2 (by omega)]
theorem over_int (ax : Nat) {was : Nat} (h : was ≤ 65535) : (decide (153 < (ax : Int) % 256) || decide (0 < bits .and .u16 (was : Int) 1)) = overN ax was := by
  rw [and_1 h]
  unfold overN
  rw [show decide (153 < (ax : Int) % 256) = decide (153 < ax % 256) from decide_eq_decide.2 (by omega)]
/-! ### Flags -/
theorem andM (was m : Nat) (h : was ≤ 65535) (hm : m ≤ 65535) : bits .and .u16 (was : Int) (m : Nat) = (was &&& m : Nat) := u16_and_nat was m (by omega) (by omega)
theorem and_le' {x y : Nat} (hy : y ≤ 65535) : x &&& y ≤ 65535 := by
  have := Nat.and_lt_two_pow (n := 16) x (y := y) (by omega); omega
theorem orM (x y : Nat) (h : x ≤ 65535) (hm : y ≤ 65535) : bits .or .u16 (x : Int) (y : Nat) = (x ||| y : Nat) := u16_or_nat x y (by omega) (by omega)
theorem keep_and (was m k : Nat) (h : was ≤ 65535) (hm : m ≤ 65535) (e : 2261 &&& m = k) : bits .and .u16 (bits .and .u16 (was : Int) 2261) (m : Nat) = (was &&& k : Nat) := by
  have e1 : bits .and .u16 (was : Int) 2261 = (was &&& 2261 : Nat) := andM was 2261 h (by decide)
  rw [e1, andM _ m (and_le' (by decide)) hm, Nat.and_assoc, e]
theorem keep_not (was : Nat) (h : was ≤ 65535) : bits .andNot .u16 (bits .and .u16 (was : Int) 2261) 17 = (was &&& 2244 : Nat) := by
  have e1 : bits .and .u16 (was : Int) 2261 = (was &&& 2261 : Nat) := andM was 2261 h (by decide)
  have hl : was &&& 2261 ≤ 65535 := and_le' (by decide)
  have e2 := u16_andNot_nat (was &&& 2261) 17 (by omega) (by decide)
  rw [e1]
  refine e2.trans ?_
  rw [Nat.and_assoc]; rfl
theorem and_12 (x m : Nat) (h : m < 4096) : x &&& m = x % 4096 &&& m := by
  apply Nat.eq_of_testBit_eq
  intro i
  rw [Nat.testBit_and, Nat.testBit_and, show (4096 : Nat) = 2 ^ 12 by decide, Nat.testBit_mod_two_pow]
  by_cases e : i < 12
  · simp [e]
  · rw [Nat.testBit_lt_two_pow (Nat.lt_of_lt_of_le h (show 2 ^ 12 ≤ 2 ^ i from Nat.pow_le_pow_right (by decide) (by omega)))]; simp
theorem both_fin : ∀ a b : Fin 64, ((a.val * 64 + b.val) &&& 2244) ||| 17 = ((a.val * 64 + b.val) &&& 2244) + 17 := by decide +kernel
theorem or_both (was : Nat) : (was &&& 2244) ||| 17 = (was &&& 2244) + 17 := by
  rw [and_12 was 2244 (by decide)]
  have e := both_fin ⟨was % 4096 / 64, by omega⟩ ⟨was % 4096 % 64, by omega⟩
  have e2 : was % 4096 / 64 * 64 + was % 4096 % 64 = was % 4096 := by omega
  simp only [e2] at e
  exact e
theorem top_fin : ∀ a b : Fin 64, (a.val * 64 + b.val) &&& 2048 = fl 2048 (onB (a.val * 64 + b.val) 11) := by decide +kernel
theorem and_top11 (was : Nat) : ∃ b, was &&& 2048 = fl 2048 b := by
  rw [and_12 was 2048 (by decide)]
  have e := top_fin ⟨was % 4096 / 64, by omega⟩ ⟨was % 4096 % 64, by omega⟩
  exact ⟨_, by have e2 : was % 4096 / 64 * 64 + was % 4096 % 64 = was % 4096 := by omega
               simp only [e2] at e; exact e⟩
theorem sum_or : ∀ b h o p z s : Bool, ((fl 2048 b ||| fl 16 h) ||| fl 1 o) ||| flagsN false p false z s false = fl 2048 b + fl 16 h + fl 1 o + flagsN false p false z s false := by decide
theorem flags_dec (was v : Nat) (h o : Bool) : (((was &&& 2048) ||| fl 16 h) ||| fl 1 o) ||| signsN false v = (was &&& 2048) + fl 16 h + fl 1 o + signsN false v := by
  obtain ⟨b, e⟩ := and_top11 was
  rw [e]; exact sum_or _ _ _ _ _ _
theorem sum_or2 : ∀ b a c p z s : Bool, ((fl 2048 b ||| fl 16 a) ||| fl 1 c) ||| flagsN false p false z s false = fl 2048 b + fl 16 a + fl 1 c + flagsN false p false z s false := sum_or
theorem part_fin : ∀ a b : Fin 64, (a.val * 64 + b.val) &&& 2065 = fl 2048 (onB (a.val * 64 + b.val) 11) + fl 16 (onB (a.val * 64 + b.val) 4) + fl 1 (onB (a.val * 64 + b.val) 0) := by decide +kernel
theorem part_or : ∀ b a c p z s : Bool, (fl 2048 b + fl 16 a + fl 1 c) ||| flagsN false p false z s false = fl 2048 b + fl 16 a + fl 1 c + flagsN false p false z s false := by decide
theorem flags_adj (was v : Nat) : (was &&& 2065) ||| signsN false v = (was &&& 2065) + signsN false v := by
  rw [and_12 was 2065 (by decide)]
  have e := part_fin ⟨was % 4096 / 64, by omega⟩ ⟨was % 4096 % 64, by omega⟩
  have e2 : was % 4096 / 64 * 64 + was % 4096 % 64 = was % 4096 := by omega
  simp only [e2] at e
  rw [e]; exact part_or _ _ _ _ _ _
theorem keep_adj (was v : Nat) (h : was ≤ 65535) : bits .or .u16 (bits .and .u16 (bits .and .u16 (was : Int) 2261) 2065) (signsN false v : Nat) = (adjF v was : Nat) := by
  have e := keep_and was 2065 2065 h (by decide) (by decide)
  have hs : signsN false v ≤ 65535 := Nat.le_trans (flagsN_le _ _ _ _ _ _) (by decide)
  rw [show ((2065 : Nat) : Int) = 2065 from rfl] at e
  rw [e, orM _ _ (and_le' (by decide)) hs, flags_adj]; rfl
def chainZ (K : Int) (h o : Bool) (S : Int) : Int := bits .or .u16 (bif o then bits .or .u16 (bif h then bits .or .u16 K 16 else K) 1 else bif h then bits .or .u16 K 16 else K) S
theorem chain_eq (was v : Nat) (h o : Bool) : chainZ (was &&& 2048 : Nat) h o (signsN false v : Nat) = ((was &&& 2048) + fl 16 h + fl 1 o + signsN false v : Nat) := by
  have k : was &&& 2048 ≤ 65535 := and_le' (by decide)
  have hs : signsN false v ≤ 65535 := Nat.le_trans (flagsN_le _ _ _ _ _ _) (by decide)
  have oo : ∀ {x y : Nat}, x ≤ 65535 → y ≤ 65535 → x ||| y ≤ 65535 := fun {x y} hx hy => by
    have := Nat.or_lt_two_pow (n := 16) (x := x) (y := y) (by omega) (by omega); omega
  rw [← flags_dec]
  have e16 : ∀ x : Nat, x ≤ 65535 → bits .or .u16 (x : Int) 16 = (x ||| 16 : Nat) := fun x h => orM x 16 h (by decide)
  have e1 : ∀ x : Nat, x ≤ 65535 → bits .or .u16 (x : Int) 1 = (x ||| 1 : Nat) := fun x h => orM x 1 h (by decide)
  unfold chainZ
  cases h <;> cases o <;> simp only [cond_true, cond_false, fl, Nat.or_zero]
  · exact orM _ _ k hs
  · rw [e1 _ k]; exact orM _ _ (oo k (by decide)) hs
  · rw [e16 _ k]; exact orM _ _ (oo k (by decide)) hs
  · rw [e16 _ k, e1 _ (oo k (by decide))]; exact orM _ _ (oo (oo k (by decide)) (by decide)) hs
theorem keep_2048 {was : Nat} (h : was ≤ 65535) : bits .and .u16 (bits .and .u16 (was : Int) 2261) 2048 = (was &&& 2048 : Nat) := keep_and was 2048 2048 h (by decide) (by decide)
theorem c_ff {was : Nat} (v : Nat) (hw : was ≤ 65535) : bits .or .u16 (bits .and .u16 (bits .and .u16 (was : Int) 2261) 2048) (signsN false v : Nat) = ((was &&& 2048) + fl 16 false + fl 1 false + signsN false v : Nat) := by
  rw [keep_2048 hw]; exact chain_eq was v false false
theorem c_tf {was : Nat} (v : Nat) (hw : was ≤ 65535) : bits .or .u16 (bits .or .u16 (bits .and .u16 (bits .and .u16 (was : Int) 2261) 2048) 16) (signsN false v : Nat) = ((was &&& 2048) + fl 16 true + fl 1 false + signsN false v : Nat) := by
  rw [keep_2048 hw]; exact chain_eq was v true false
theorem c_ft {was : Nat} (v : Nat) (hw : was ≤ 65535) : bits .or .u16 (bits .or .u16 (bits .and .u16 (bits .and .u16 (was : Int) 2261) 2048) 1) (signsN false v : Nat) = ((was &&& 2048) + fl 16 false + fl 1 true + signsN false v : Nat) := by
  rw [keep_2048 hw]; exact chain_eq was v false true
theorem c_tt {was : Nat} (v : Nat) (hw : was ≤ 65535) : bits .or .u16 (bits .or .u16 (bits .or .u16 (bits .and .u16 (bits .and .u16 (was : Int) 2261) 2048) 16) 1) (signsN false v : Nat) = ((was &&& 2048) + fl 16 true + fl 1 true + signsN false v : Nat) := by
  rw [keep_2048 hw]; exact chain_eq was v true true
theorem chain_both (was : Nat) : bits .or .u16 ((was &&& 2244 : Nat) : Int) 17 = ((was &&& 2244) + 17 : Nat) := by
  rw [← or_both]; exact orM _ 17 (and_le' (by decide)) (by decide)
theorem x_13 (ax was : Nat) : decX 13 ax was = bif halfN ax was then (ax % 256 + 6) % 16 else ax % 16 := rfl
theorem y_13 (ax was : Nat) : decY 13 ax was = bif halfN ax was then (ax / 256 + 1) % 256 else ax / 256 := rfl
theorem f_13 (ax was : Nat) : decF 13 ax was = (was &&& 2244) + bif halfN ax was then 17 else 0 := rfl
theorem x_14 (ax was : Nat) : decX 14 ax was = bif halfN ax was then (ax % 256 + 250) % 16 else ax % 16 := rfl
theorem y_14 (ax was : Nat) : decY 14 ax was = bif halfN ax was then (ax / 256 + 255) % 256 else ax / 256 := rfl
theorem f_14 (ax was : Nat) : decF 14 ax was = (was &&& 2244) + bif halfN ax was then 17 else 0 := rfl
theorem x_11 (ax was : Nat) : decX 11 ax was = (ax % 256 + ((bif halfN ax was then 6 else 0) + bif overN ax was then 96 else 0)) % 256 := rfl
theorem x_12 (ax was : Nat) : decX 12 ax was = (ax % 256 + 256 - ((bif halfN ax was then 6 else 0) + bif overN ax was then 96 else 0)) % 256 := rfl
theorem y_11 (ax was : Nat) : decY 11 ax was = ax / 256 := rfl
theorem y_12 (ax was : Nat) : decY 12 ax was = ax / 256 := rfl
theorem f_11 (ax was : Nat) : decF 11 ax was = (was &&& 2048) + fl 16 (halfN ax was) + fl 1 (overN ax was) + signsN false (decX 11 ax was) := rfl
theorem f_12 (ax was : Nat) : decF 12 ax was = (was &&& 2048) + fl 16 (halfN ax was) + fl 1 (overN ax was) + signsN false (decX 12 ax was) := rfl
theorem decX_le (nm ax was : Nat) (h : ax ≤ 65535) : decX nm ax was ≤ 255 := by
  unfold decX
  cases halfN ax was <;> simp only [cond_true, cond_false] <;> (repeat' split) <;> omega
theorem decY_le (nm ax was : Nat) (h : ax ≤ 65535) : decY nm ax was ≤ 255 := by
  unfold decY
  cases halfN ax was <;> simp only [cond_true, cond_false] <;> (repeat' split) <;> omega
theorem adjM_int (ax : Nat) : (ax : Int) % 256 % 10 + (ax : Int) % 256 / 10 * 256 = (adjM ax : Nat) := by unfold adjM; omega
theorem adjD_int (ax : Nat) : ((ax : Int) % 256 + 10 * ((ax : Int) / 256)) % 256 = (adjD ax : Nat) := by unfold adjD; omega
theorem adjM_le (ax : Nat) : adjM ax ≤ 65535 := by unfold adjM; omega
theorem adjD_le (ax : Nat) : adjD ax ≤ 255 := by unfold adjD; omega
end Go.Proofs.Ytpkobahelnopmaa
