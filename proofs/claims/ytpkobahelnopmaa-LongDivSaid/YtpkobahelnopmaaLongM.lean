/- Decimal digits behind sums and differences: what the flags tell, and that two digits each are added and taken away rightly. No walk is here, and no statement of the seat is proved here. -/
import Derived.Test.YtpkobahelnopmaaLongN
namespace Go.Proofs.Ytpkobahelnopmaa
open Go Go.RowKit
set_option linter.unusedVariables false
set_option linter.unusedSimpArgs false

theorem on_c : ∀ c p a z s o : Bool, onB (flagsN c p a z s o) 0 = c := by decide
theorem on_a : ∀ c p a z s o : Bool, onB (flagsN c p a z s o) 4 = a := by decide
theorem add_c (wide : Bool) (a b c : Nat) : onB (addF wide a b c) 0 = (carN a b c (sizeN wide) == 1) := on_c _ _ _ _ _ _
theorem add_a (wide : Bool) (a b c : Nat) : onB (addF wide a b c) 4 = (carN a b c 4 == 1) := on_a _ _ _ _ _ _
theorem sub_c (wide : Bool) (a b c : Nat) : onB (subF wide a b c) 0 = (borN a b c (sizeN wide) == 1) := on_c _ _ _ _ _ _
theorem sub_a (wide : Bool) (a b c : Nat) : onB (subF wide a b c) 4 = (borN a b c 4 == 1) := on_a _ _ _ _ _ _
def bcd (x : Nat) : Nat := x / 10 * 16 + x % 10
theorem bcd_le {x : Nat} (h : x ≤ 99) : bcd x ≤ 153 := by unfold bcd; omega
/-- What DAA and DAS add or take, as the two flags tell. -/
def byOf (h c : Bool) (v : Nat) : Nat := (bif decide (9 < v % 16) || h then 6 else 0) + (bif decide (153 < v % 256) || c then 96 else 0)
theorem by_of (v f : Nat) : byN v f = byOf (onB f 4) (onB f 0) v := rfl
theorem add_fin : ∀ x y : Fin 100, let p := bcd x.val; let q := bcd y.val; let v := (p + q) % 256
    (v % 256 + byOf (carN p q 0 4 == 1) (carN p q 0 8 == 1) v) % 256 = bcd ((x.val + y.val) % 100) ∧ (decide (153 < v % 256) || (carN p q 0 8 == 1)) = decide (99 < x.val + y.val) := by decide +kernel
theorem sub_fin : ∀ x y : Fin 100, let p := bcd x.val; let q := bcd y.val; let v := (p + 256 - q) % 256
    (v % 256 + 256 - byOf (borN p q 0 4 == 1) (borN p q 0 8 == 1) v) % 256 = bcd ((x.val + 100 - y.val) % 100) ∧ (decide (153 < v % 256) || (borN p q 0 8 == 1)) = decide (x.val < y.val) := by decide +kernel
theorem fl_even {k : Nat} (on : Bool) (h : k % 2 = 0) : fl k on % 2 = 0 := by cases on <;> simp [fl, h]
theorem signs_even (wide : Bool) (v : Nat) : signsN wide v % 2 = 0 := by
  show (fl 1 false + fl 4 _ + fl 16 false + fl 64 _ + fl 128 _ + fl 2048 false) % 2 = 0
  have h1 := fl_even (k := 4) (ev (cutN wide v)) rfl
  have h2 := fl_even (k := 64) (cutN wide v == 0) rfl
  have h3 := fl_even (k := 128) (decide (topN wide ≤ cutN wide v)) rfl
  have h4 : fl 1 false = 0 := rfl
  have h5 : fl 16 false = 0 := rfl
  have h6 : fl 2048 false = 0 := rfl
  omega
theorem and_even (f : Nat) : (f &&& 2048) % 2 = 0 := by
  rw [show (f &&& 2048) % 2 = f % 2 &&& 2048 % 2 from Nat.and_mod_two_pow (n := 1)]
  simp
theorem decF_c {nm ax was : Nat} (h : nm = 11 ∨ nm = 12) : decF nm ax was % 2 = fl 1 (overN ax was) := by
  unfold decF
  rw [if_neg (by omega)]
  have h1 := and_even was
  have h2 := fl_even (k := 16) (halfN ax was) rfl
  have h3 := signs_even false (decX nm ax was)
  have h4 := fl_le 1 (overN ax was)
  omega
theorem decF_le (nm ax was : Nat) : decF nm ax was ≤ 65535 := by
  unfold decF
  split
  · have := Nat.and_le_right (n := was) (m := 2244)
    cases halfN ax was <;> simp only [cond_true, cond_false] <;> omega
  · have := Nat.and_le_right (n := was) (m := 2048)
    have := fl_le 16 (halfN ax was)
    have := fl_le 1 (overN ax was)
    have : signsN false (decX nm ax was) ≤ 2261 := flagsN_le _ _ _ _ _ _
    omega
theorem and_oneL {f : Nat} (h : f ≤ 65535) : bits .and .u16 (f : Int) 1 = (f % 2 : Nat) := by
  have := u16_and_nat f 1 (by omega) (by decide)
  rw [Nat.and_one_is_mod] at this
  exact this
theorem dec_add {x y : Nat} (hx : x ≤ 99) (hy : y ≤ 99) : decX 11 (addV false (bcd x) (bcd y) 0) (addF false (bcd x) (bcd y) 0) + 256 * decY 11 (addV false (bcd x) (bcd y) 0) (addF false (bcd x) (bcd y) 0) = bcd ((x + y) % 100) ∧ overN (addV false (bcd x) (bcd y) 0) (addF false (bcd x) (bcd y) 0) = decide (99 < x + y) := by
  have h := add_fin ⟨x, by omega⟩ ⟨y, by omega⟩
  have hv : addV false (bcd x) (bcd y) 0 = (bcd x + bcd y) % 256 := rfl
  have e1 : decX 11 (addV false (bcd x) (bcd y) 0) (addF false (bcd x) (bcd y) 0) = (addV false (bcd x) (bcd y) 0 % 256 + byN (addV false (bcd x) (bcd y) 0) (addF false (bcd x) (bcd y) 0)) % 256 := rfl
  have e2 : decY 11 (addV false (bcd x) (bcd y) 0) (addF false (bcd x) (bcd y) 0) = addV false (bcd x) (bcd y) 0 / 256 := rfl
  have e3 : overN (addV false (bcd x) (bcd y) 0) (addF false (bcd x) (bcd y) 0) = (decide (153 < addV false (bcd x) (bcd y) 0 % 256) || onB (addF false (bcd x) (bcd y) 0) 0) := rfl
  rw [e1, e2, e3, by_of, add_a, add_c, hv, show (bcd x + bcd y) % 256 / 256 = 0 by omega, Nat.mul_zero, Nat.add_zero]
  exact h
theorem dec_sub {x y : Nat} (hx : x ≤ 99) (hy : y ≤ 99) : decX 12 (subV false (bcd x) (bcd y) 0) (subF false (bcd x) (bcd y) 0) + 256 * decY 12 (subV false (bcd x) (bcd y) 0) (subF false (bcd x) (bcd y) 0) = bcd ((x + 100 - y) % 100) ∧ overN (subV false (bcd x) (bcd y) 0) (subF false (bcd x) (bcd y) 0) = decide (x < y) := by
  have h := sub_fin ⟨x, by omega⟩ ⟨y, by omega⟩
  have hv : subV false (bcd x) (bcd y) 0 = (bcd x + 256 - bcd y) % 256 := rfl
  have e1 : decX 12 (subV false (bcd x) (bcd y) 0) (subF false (bcd x) (bcd y) 0) = (subV false (bcd x) (bcd y) 0 % 256 + 256 - byN (subV false (bcd x) (bcd y) 0) (subF false (bcd x) (bcd y) 0)) % 256 := rfl
  have e2 : decY 12 (subV false (bcd x) (bcd y) 0) (subF false (bcd x) (bcd y) 0) = subV false (bcd x) (bcd y) 0 / 256 := rfl
  have e3 : overN (subV false (bcd x) (bcd y) 0) (subF false (bcd x) (bcd y) 0) = (decide (153 < subV false (bcd x) (bcd y) 0 % 256) || onB (subF false (bcd x) (bcd y) 0) 0) := rfl
  rw [e1, e2, e3, by_of, sub_a, sub_c, hv, show (bcd x + 256 - bcd y) % 256 / 256 = 0 by omega, Nat.mul_zero, Nat.add_zero]
  exact h
theorem over_on (b : Bool) : decide ((0 : Int) < (fl 1 b : Nat)) = b := by cases b <;> rfl
end Go.Proofs.Ytpkobahelnopmaa
