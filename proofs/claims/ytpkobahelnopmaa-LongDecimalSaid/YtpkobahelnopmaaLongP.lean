/- The steps of package long in plain arithmetic: signs of 16 and of 8 bits, halves of a product, what a product's upper half tells. No walk is here, and no statement of the seat is proved here. -/
import Derived.Test.YtpkobahelnopmaaLongK
import Derived.Test.YtpkobahelnopmaaBitsM
namespace Go.Proofs.Ytpkobahelnopmaa
open Go Go.RowKit
set_option linter.unusedVariables false
set_option linter.unusedSimpArgs false

theorem w16 (z : Int) : IntKind.i16.wrap z = (z + 32768) % 65536 - 32768 := by
  simp only [IntKind.wrap, IntKind.bits, IntKind.signed]
  simp
  split <;> omega
theorem w32 (z : Int) : IntKind.i32.wrap z = (z + 2147483648) % 4294967296 - 2147483648 := by
  simp only [IntKind.wrap, IntKind.bits, IntKind.signed]
  simp
  split <;> omega
theorem wu32 (z : Int) : IntKind.u32.wrap z = z % 4294967296 := by
  simp only [IntKind.wrap, IntKind.bits, IntKind.signed]
  simp
theorem wholeT (x : Nat) : wholeZ true true x = if 32768 ≤ (x : Int) then (x : Int) - 65536 else x := by
  show (bif true && decide (32768 ≤ x) then (x : Int) - 65536 else (x : Int)) = _
  by_cases e : 32768 ≤ x
  · rw [decide_eq_true e, if_pos (by omega)]; rfl
  · rw [decide_eq_false e, if_neg (by omega)]; rfl
theorem wholeF (x : Nat) : wholeZ true false x = if 128 ≤ (x : Int) % 256 then (x : Int) % 256 - 256 else (x : Int) % 256 := by
  show (bif true && decide (128 ≤ x % 256) then ((x % 256 : Nat) : Int) - 256 else ((x % 256 : Nat) : Int)) = _
  by_cases e : 128 ≤ x % 256
  · rw [decide_eq_true e, if_pos (by omega)]; simp only [Bool.true_and, cond_true]; omega
  · rw [decide_eq_false e, if_neg (by omega)]; simp only [Bool.and_false, cond_false]; omega
theorem signed_f (x : Nat) : wrap32 (IntKind.i16.wrap (signZ ((x : Int) % 256))) = wholeZ true false x := by
  rw [w16, wholeF]; unfold wrap32 signZ
  split <;> split <;> omega
theorem signed_t (x : Nat) (h : x ≤ 65535) : wrap32 (IntKind.i16.wrap (x : Int)) = wholeZ true true x := by
  rw [w16, wholeT]; unfold wrap32
  split <;> omega
/-- Bounds of a number with its sign. -/
theorem whole_half (wide : Bool) {x : Nat} (h : x ≤ 65535) : -(oneZ wide / 2) ≤ wholeZ true wide x ∧ wholeZ true wide x < oneZ wide / 2 := by
  cases wide
  · rw [wholeF]; show -(256 / 2) ≤ _ ∧ _ < (256 / 2 : Int); split <;> omega
  · rw [wholeT]; show -(65536 / 2) ≤ _ ∧ _ < (65536 / 2 : Int); split <;> omega
/-- What spreading a sign leaves. -/
def spZ (wide : Bool) (x : Nat) : Int := wholeZ true wide x / 65536 % 65536 % oneZ wide
theorem spF (x : Nat) : spZ false x = if 128 ≤ (x : Int) % 256 then 255 else 0 := by
  unfold spZ; rw [wholeF]
  show _ / 65536 % 65536 % 256 = _
  split
  · rw [show ((x : Int) % 256 - 256) / 65536 = -1 by omega]; decide
  · rw [show ((x : Int) % 256) / 65536 = 0 by omega]; decide
theorem spT (x : Nat) (h : x ≤ 65535) : spZ true x = if 32768 ≤ (x : Int) then 65535 else 0 := by
  unfold spZ; rw [wholeT]
  show _ / 65536 % 65536 % 65536 = _
  split
  · rw [show ((x : Int) - 65536) / 65536 = -1 by omega]; decide
  · rw [show (x : Int) / 65536 = 0 by omega]; decide
theorem mul_abs {x y m : Int} (hx : -m ≤ x ∧ x ≤ m) (hy : -m ≤ y ∧ y ≤ m) : -(m * m) ≤ x * y ∧ x * y ≤ m * m := by
  have h : (x * y).natAbs ≤ m.natAbs * m.natAbs := by
    rw [Int.natAbs_mul]
    exact Nat.mul_le_mul (by omega) (by omega)
  have e : ((m.natAbs * m.natAbs : Nat) : Int) = m * m := by
    rw [Int.natCast_mul, show ((m.natAbs : Nat) : Int) = m by omega]
  omega
theorem prod_half (wide : Bool) {a b : Nat} (ha : a ≤ 65535) (hb : b ≤ 65535) : -(oneZ wide / 2 * (oneZ wide / 2)) ≤ mulP true wide a b ∧ mulP true wide a b ≤ oneZ wide / 2 * (oneZ wide / 2) := by
  have h1 := whole_half wide ha
  have h2 := whole_half wide hb
  exact mul_abs (by omega) (by omega)
theorem bne_two {a b : Int} {p : Bool} (h : a ≠ b ↔ p = true) : (a != b) = p := by
  rw [Bool.eq_iff_iff, bne_iff_ne]; exact h
/-- Whether the upper half tells something beside the sign. -/
theorem tells_sign (wide : Bool) {a b : Nat} (ha : a ≤ 65535) (hb : b ≤ 65535) {l : Nat} (hl : (l : Int) = mulP true wide a b % oneZ wide) : (mulP true wide a b / oneZ wide % oneZ wide != spZ wide l) = mulM true wide a b := by
  have h := prod_half wide ha hb
  unfold mulM
  generalize mulP true wide a b = p at *
  apply bne_two
  simp only [cond_true, Bool.or_eq_true, decide_eq_true_eq]
  cases wide
  · have hl' : (l : Int) = p % 256 := hl
    have h' : -16384 ≤ p ∧ p ≤ 16384 := by rw [show oneZ false / 2 * (oneZ false / 2) = 16384 by decide] at h; exact h
    rw [spF]
    show p / 256 % 256 ≠ (if _ then _ else _) ↔ p < -(256 / 2) ∨ 256 / 2 ≤ p
    split <;> omega
  · have hl' : (l : Int) = p % 65536 := hl
    have h' : -1073741824 ≤ p ∧ p ≤ 1073741824 := by rw [show oneZ true / 2 * (oneZ true / 2) = 1073741824 by decide] at h; exact h
    rw [spT _ (by omega)]
    show p / 65536 % 65536 ≠ (if _ then _ else _) ↔ p < -(65536 / 2) ∨ 65536 / 2 ≤ p
    split <;> omega
theorem wholeP (wide : Bool) (x : Nat) : wholeZ false wide x = (cutN wide x : Nat) := rfl
theorem prod_plain (wide : Bool) {a b : Nat} (ha : a ≤ 65535) (hb : b ≤ 65535) : 0 ≤ mulP false wide a b ∧ mulP false wide a b ≤ (oneZ wide - 1) * (oneZ wide - 1) := by
  have h1 := cut_one wide ha
  have h2 := cut_one wide hb
  refine ⟨Int.mul_nonneg (Int.natCast_nonneg _) (Int.natCast_nonneg _), ?_⟩
  have h := mul_abs (x := (cutN wide a : Int)) (y := (cutN wide b : Int)) (m := oneZ wide - 1) (by omega) (by omega)
  exact h.2
theorem tells_plain (wide : Bool) {a b : Nat} (ha : a ≤ 65535) (hb : b ≤ 65535) : (mulP false wide a b / oneZ wide % oneZ wide != 0) = mulM false wide a b := by
  have h := prod_plain wide ha hb
  show _ = (mulP false wide a b / oneZ wide != 0)
  generalize mulP false wide a b = p at *
  have e : p / oneZ wide % oneZ wide = p / oneZ wide := by
    cases wide
    · have h' : 0 ≤ p ∧ p ≤ (256 - 1) * (256 - 1) := h
      show p / 256 % 256 = p / 256
      omega
    · have h' : 0 ≤ p ∧ p ≤ (65536 - 1) * (65536 - 1) := h
      show p / 65536 % 65536 = p / 65536
      omega
  rw [e]
theorem low_32 (wide : Bool) (p : Int) : p % 4294967296 % oneZ wide = p % oneZ wide := by
  cases wide
  · show p % 4294967296 % 256 = p % 256; omega
  · show p % 4294967296 % 65536 = p % 65536; omega
theorem high_32 (wide : Bool) (p : Int) : p % 4294967296 / oneZ wide % oneZ wide = p / oneZ wide % oneZ wide := by
  cases wide
  · show p % 4294967296 / 256 % 256 = p / 256 % 256; omega
  · show p % 4294967296 / 65536 % 65536 = p / 65536 % 65536; omega
theorem one_pos (wide : Bool) : 0 < oneZ wide := by cases wide <;> decide
theorem cutZ (wide : Bool) {x : Nat} (h : x ≤ 65535) : ((cutN wide x : Nat) : Int) = (x : Int) % oneZ wide := by
  cases wide
  · show ((x % 256 : Nat) : Int) = (x : Int) % 256; omega
  · show (x : Int) = (x : Int) % 65536; omega
/-- What is divided with signs, off what is without. -/
def sgA (wide : Bool) (v : Int) : Int := bif decide (oneZ wide * oneZ wide / 2 ≤ v) then v - oneZ wide * oneZ wide else v
theorem sgA_div (wide : Bool) (x y : Nat) : sgA wide (divA false wide x y) = divA true wide x y := rfl
theorem div_bdF (wide : Bool) {x y : Nat} (hx : x ≤ 65535) (hy : y ≤ 65535) : 0 ≤ divA false wide x y ∧ divA false wide x y < oneZ wide * oneZ wide := two_bd wide hx hy
theorem sgA_t {v : Int} (h : 0 ≤ v ∧ v < oneZ true * oneZ true) : IntKind.i32.wrap v = sgA true v := by
  have h' : 0 ≤ v ∧ v < (65536 * 65536 : Int) := h
  show _ = bif decide ((65536 * 65536 / 2 : Int) ≤ v) then v - 65536 * 65536 else v
  rw [w32]
  by_cases e : (65536 * 65536 / 2 : Int) ≤ v
  · rw [decide_eq_true e, cond_true]; omega
  · rw [decide_eq_false e, cond_false]; omega
theorem sgA_f {v : Int} (h : 0 ≤ v ∧ v < oneZ false * oneZ false) : IntKind.i16.wrap v = sgA false v := by
  have h' : 0 ≤ v ∧ v < (256 * 256 : Int) := h
  show _ = bif decide ((256 * 256 / 2 : Int) ≤ v) then v - 256 * 256 else v
  rw [w16]
  by_cases e : (256 * 256 / 2 : Int) ≤ v
  · rw [decide_eq_true e, cond_true]; omega
  · rw [decide_eq_false e, cond_false]; omega
theorem sgA_bd (wide : Bool) {v : Int} (h : 0 ≤ v ∧ v < oneZ wide * oneZ wide) : -4294967296 ≤ sgA wide v ∧ sgA wide v ≤ 4294967296 := by
  have hM : oneZ wide * oneZ wide ≤ 4294967296 ∧ 65536 ≤ oneZ wide * oneZ wide := by rcases one_ways wide with e | e <;> rw [e] <;> omega
  unfold sgA
  by_cases e : oneZ wide * oneZ wide / 2 ≤ v
  · rw [decide_eq_true e, cond_true]; omega
  · rw [decide_eq_false e, cond_false]; omega
theorem or_join {x y : Nat} (hx : x ≤ 65535) (hy : y ≤ 65535) : bits .or .u32 ((y : Int) * 65536) (x : Int) = (y : Int) * 65536 + x := by
  have e := u32_or_nat (y * 65536) x (by omega) (by omega)
  rw [nat_join 16 _ _ (by omega) (by omega)] at e
  rw [show ((y * 65536 : Nat) : Int) = (y : Int) * 65536 by omega] at e
  rw [e]; omega
/-! ### Quotients without signs -/
theorem plain_no (wide : Bool) {v b : Int} (hv : 0 ≤ v) (hb : 1 ≤ b) (h : oneZ wide - 1 < v / b) : divOk false wide v b = false ∧ divQ false wide v b = 0 ∧ divR false wide v b = 0 := by
  have e : divOk false wide v b = false := by
    unfold divOk
    rw [Int.tdiv_eq_ediv_of_nonneg hv, show decide (v / b ≤ divMost false wide) = false from decide_eq_false (by show ¬ v / b ≤ oneZ wide - 1; omega)]
    simp
  refine ⟨e, ?_, ?_⟩
  · unfold divQ; rw [e]; rfl
  · unfold divR; rw [e]; rfl
theorem plain_yes (wide : Bool) {v b : Int} (hv : 0 ≤ v) (hb : 1 ≤ b) (hb' : b < oneZ wide) (h : v / b ≤ oneZ wide - 1) : divOk false wide v b = true ∧ divQ false wide v b = v / b ∧ divR false wide v b = v % b := by
  have h0 : 0 ≤ v / b := Int.ediv_nonneg hv (by omega)
  have h1 := Int.emod_nonneg v (show b ≠ 0 by omega)
  have h2 := Int.emod_lt_of_pos v (show 0 < b by omega)
  have e : divOk false wide v b = true := by
    unfold divOk
    rw [Int.tdiv_eq_ediv_of_nonneg hv, show decide (v / b ≤ divMost false wide) = true from decide_eq_true h, show decide (divLeast false wide ≤ v / b) = true from decide_eq_true h0, show (b == 0) = false from beq_eq_false_iff_ne.2 (by omega)]
    rfl
  refine ⟨e, ?_, ?_⟩
  · unfold divQ; rw [e, cond_true, Int.tdiv_eq_ediv_of_nonneg hv]; exact Int.emod_eq_of_lt h0 (by omega)
  · unfold divR; rw [e, cond_true, Int.tmod_eq_emod_of_nonneg hv]; exact Int.emod_eq_of_lt h1 (by omega)
theorem cut_twice (wide : Bool) (x : Nat) : cutN wide (cutN wide x) = cutN wide x := by
  cases wide
  · show x % 256 % 256 = x % 256; omega
  · rfl
theorem whole_cut (s wide : Bool) (x : Nat) : wholeZ s wide (cutN wide x) = wholeZ s wide x := by
  unfold wholeZ; rw [cut_twice]
theorem whole_zero (s wide : Bool) {x : Nat} (h : cutN wide x = 0) : wholeZ s wide x = 0 := by
  unfold wholeZ; rw [h]
  have e : decide (topN wide ≤ 0) = false := by cases wide <;> rfl
  rw [e, Bool.and_false]; rfl
theorem whole_some (s wide : Bool) {x : Nat} (hx : x ≤ 65535) (h : cutN wide x ≠ 0) : wholeZ s wide x ≠ 0 := by
  have h1 := cut_one wide hx
  unfold wholeZ
  cases (s && decide (topN wide ≤ cutN wide x))
  · rw [cond_false]; omega
  · rw [cond_true]; omega
theorem div_none0 (s wide : Bool) (a : Int) : divOk s wide a 0 = false ∧ divQ s wide a 0 = 0 ∧ divR s wide a 0 = 0 := by
  have e : divOk s wide a 0 = false := by unfold divOk; simp
  refine ⟨e, ?_, ?_⟩
  · unfold divQ; rw [e]; rfl
  · unfold divR; rw [e]; rfl
theorem cut_some (wide : Bool) {x : Nat} (hx : x ≤ 65535) (h : cutN wide x ≠ 0) : 1 ≤ ((cutN wide x : Nat) : Int) ∧ ((cutN wide x : Nat) : Int) < oneZ wide := ⟨by omega, cut_one wide hx⟩
end Go.Proofs.Ytpkobahelnopmaa
