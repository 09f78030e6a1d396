/- Products, quotients and decimal digits, as plain arithmetic. No walk is here, and no statement of the seat is proved here. -/
import Derived.Test.YtpkobahelnopmaaAluO
import Derived.IntWalk
namespace Go.Proofs.Ytpkobahelnopmaa
open Go Go.RowKit
set_option linter.unusedVariables false
set_option linter.unusedSimpArgs false

/-- How many numbers there are; a number as a whole one, with a sign, or without. -/
def oneZ (wide : Bool) : Int := bif wide then 65536 else 256
def wholeZ (s wide : Bool) (x : Nat) : Int := bif s && decide (topN wide ≤ cutN wide x) then (cutN wide x : Int) - oneZ wide else (cutN wide x : Int)
theorem oneZ_top (wide : Bool) : oneZ wide = 2 * (topN wide : Nat) := by cases wide <;> rfl
theorem whole_bd (s wide : Bool) {x : Nat} (h : x ≤ 65535) : -32768 ≤ wholeZ s wide x ∧ wholeZ s wide x ≤ 65535 := by
  have h1 := cutN_lt (wide := wide) h
  have h2 := cutN_le (wide := wide) h
  have h3 := topN_le wide
  have h4 := oneZ_top wide
  unfold wholeZ
  cases s
  · simp only [Bool.false_and, cond_false]; omega
  · by_cases e : topN wide ≤ cutN wide x
    · simp only [decide_eq_true e, Bool.true_and, cond_true]; omega
    · simp only [decide_eq_false e, Bool.true_and, cond_false]; omega
/-! ### A product -/
def mulP (s wide : Bool) (a b : Nat) : Int := wholeZ s wide a * wholeZ s wide b
def mulL (s wide : Bool) (a b : Nat) : Int := mulP s wide a b % oneZ wide
def mulH (s wide : Bool) (a b : Nat) : Int := mulP s wide a b / oneZ wide % oneZ wide
def mulM (s wide : Bool) (a b : Nat) : Bool := bif s then decide (mulP s wide a b < -(oneZ wide / 2)) || decide (oneZ wide / 2 ≤ mulP s wide a b) else mulP s wide a b / oneZ wide != 0
theorem mul_bd {x y : Int} (hx : -65536 ≤ x ∧ x ≤ 65536) (hy : -65536 ≤ y ∧ y ≤ 65536) : -4294967296 ≤ x * y ∧ x * y ≤ 4294967296 := by
  have h : (x * y).natAbs ≤ 65536 * 65536 := by
    rw [Int.natAbs_mul]
    exact Nat.mul_le_mul (by omega) (by omega)
  omega
theorem mulP_bd (s wide : Bool) {a b : Nat} (ha : a ≤ 65535) (hb : b ≤ 65535) : -4294967296 ≤ mulP s wide a b ∧ mulP s wide a b ≤ 4294967296 := by
  have h1 := whole_bd s wide ha
  have h2 := whole_bd s wide hb
  exact mul_bd (by omega) (by omega)
/-! ### Remainders -/
theorem one_ways (wide : Bool) : oneZ wide = 256 ∨ oneZ wide = 65536 := by cases wide <;> simp [oneZ]
theorem quo_bd {x o : Int} (ho : o = 256 ∨ o = 65536) (h : -4611686018427387904 ≤ x ∧ x ≤ 4611686018427387903) : -4611686018427387904 ≤ x / o ∧ x / o ≤ 4611686018427387903 := by
  rcases ho with rfl | rfl <;> omega
theorem tmod_two {x o : Int} (ho : 0 < o) : x.tmod o = x % o ∨ (x.tmod o = x % o - o ∧ 0 < x % o) := by
  by_cases h : 0 ≤ x
  · exact .inl (Int.tmod_eq_emod_of_nonneg h)
  · have e := Int.tmod_eq_emod (a := x) (b := o)
    by_cases hd : o ∣ x
    · left; rw [e, if_pos (.inr hd)]; omega
    · right
      rw [if_neg (by simp [h, hd])] at e
      refine ⟨by omega, ?_⟩
      have h1 := Int.emod_nonneg x (show o ≠ 0 by omega)
      have h2 : x % o ≠ 0 := fun z => hd (Int.dvd_of_emod_eq_zero z)
      omega
theorem mod_twice {x o : Int} (ho : o = 256 ∨ o = 65536) (h : -4611686018427387904 ≤ x ∧ x ≤ 4611686018427387903) : (wrap64 (x.tmod o + o)).tmod o = x % o := by
  have h0 : 0 < o := by omega
  have h1 := Int.emod_nonneg x (show o ≠ 0 by omega)
  have h2 := Int.emod_lt_of_pos x h0
  rcases tmod_two (x := x) h0 with e | ⟨e, hp⟩
  · rw [e, IntWalk.wrap64_in _ (by omega), Int.tmod_eq_emod_of_nonneg (by omega), Int.add_emod_right, Int.emod_emod]
  · rw [e, IntWalk.wrap64_in _ (by omega), Int.tmod_eq_emod_of_nonneg (by omega), show x % o - o + o = x % o by omega, Int.emod_emod]
theorem quo_whole {x o : Int} (ho : o = 256 ∨ o = 65536) (h : -4611686018427387904 ≤ x ∧ x ≤ 4611686018427387903) : wrap64 ((wrap64 (x - x % o)).tdiv o) = x / o := by
  have h0 : o ≠ 0 := by omega
  have e := Int.emod_add_mul_ediv x o
  have h1 := Int.emod_nonneg x h0
  have h2 := Int.emod_lt_of_pos x (show 0 < o by omega)
  have h3 := quo_bd ho h
  rw [IntWalk.wrap64_in (x - x % o) (by omega), show x - x % o = o * (x / o) by omega, Int.mul_tdiv_cancel_left _ h0, IntWalk.wrap64_in _ (by omega)]
theorem half_quo {o : Int} (ho : o = 256 ∨ o = 65536) : o.tdiv 2 = o / 2 := Int.tdiv_eq_ediv_of_nonneg (by omega)
theorem half_neg {o : Int} (ho : o = 256 ∨ o = 65536) : wrap64 (-(o / 2)) = -(o / 2) := by rcases ho with rfl | rfl <;> decide +kernel
/-! ### A quotient -/
def divA (s wide : Bool) (low high : Nat) : Int :=
  let a := (cutN wide high : Int) * oneZ wide + (cutN wide low : Int)
  bif s && decide (oneZ wide * oneZ wide / 2 ≤ a) then a - oneZ wide * oneZ wide else a
def divMost (s wide : Bool) : Int := bif s then oneZ wide / 2 - 1 else oneZ wide - 1
def divLeast (s wide : Bool) : Int := bif s then 1 - oneZ wide / 2 else 0
def divOk (s wide : Bool) (a b : Int) : Bool := !(b == 0) && (decide (divLeast s wide ≤ a.tdiv b) && decide (a.tdiv b ≤ divMost s wide))
def divQ (s wide : Bool) (a b : Int) : Int := bif divOk s wide a b then a.tdiv b % oneZ wide else 0
def divR (s wide : Bool) (a b : Int) : Int := bif divOk s wide a b then a.tmod b % oneZ wide else 0
theorem cut_one (wide : Bool) {x : Nat} (h : x ≤ 65535) : (cutN wide x : Int) < oneZ wide := by
  have h1 := cutN_lt (wide := wide) h
  have h2 := oneZ_top wide
  omega
theorem two_num (wide : Bool) {x y : Nat} (hx : x ≤ 65535) (hy : y ≤ 65535) : wrap64 (wrap64 (wrap64 (cutN wide y : Nat) * oneZ wide) + wrap64 (cutN wide x : Nat)) = (cutN wide y : Int) * oneZ wide + (cutN wide x : Int) := by
  have h1 := cutN_le (wide := wide) hx
  have h2 := cutN_le (wide := wide) hy
  rw [IntWalk.wrap64_in (cutN wide y : Int) (by omega), IntWalk.wrap64_in (cutN wide x : Int) (by omega)]
  have h3 : (cutN wide y : Int) * oneZ wide = (cutN wide y : Int) * oneZ wide := rfl
  rcases one_ways wide with e | e <;> rw [e, IntWalk.wrap64_in ((cutN wide y : Int) * _) (by omega), IntWalk.wrap64_in _ (by omega)]
theorem two_bd (wide : Bool) {x y : Nat} (hx : x ≤ 65535) (hy : y ≤ 65535) : 0 ≤ (cutN wide y : Int) * oneZ wide + (cutN wide x : Int) ∧ (cutN wide y : Int) * oneZ wide + (cutN wide x : Int) < oneZ wide * oneZ wide := by
  have h1 := cut_one wide hx
  have h2 := cut_one wide hy
  rcases one_ways wide with e | e <;> rw [e] at h1 h2 ⊢ <;> omega
/-- What is divided: its bounds. -/
theorem divA_bd (s wide : Bool) {x y : Nat} (hx : x ≤ 65535) (hy : y ≤ 65535) : -4294967296 ≤ divA s wide x y ∧ divA s wide x y ≤ 4294967296 := by
  have h := two_bd wide hx hy
  unfold divA
  have hm : oneZ wide * oneZ wide ≤ 4294967296 ∧ 65536 ≤ oneZ wide * oneZ wide := by rcases one_ways wide with e | e <;> rw [e] <;> omega
  simp only
  generalize (cutN wide y : Int) * oneZ wide + (cutN wide x : Int) = a at *
  generalize oneZ wide * oneZ wide = M at *
  cases s
  · simp only [Bool.false_and, cond_false]; omega
  · by_cases e : M / 2 ≤ a
    · simp only [decide_eq_true e, Bool.true_and, cond_true]; omega
    · simp only [decide_eq_false e, Bool.true_and, cond_false]; omega
theorem tdiv_bd {a b : Int} (h : -4294967296 ≤ a ∧ a ≤ 4294967296) : -4294967296 ≤ a.tdiv b ∧ a.tdiv b ≤ 4294967296 := by
  have h1 : (a.tdiv b).natAbs ≤ a.natAbs := by rw [Int.natAbs_tdiv]; exact Nat.div_le_self _ _
  omega
theorem tmod_bd {a b : Int} (h : -4294967296 ≤ a ∧ a ≤ 4294967296) : -4294967296 ≤ a.tmod b ∧ a.tmod b ≤ 4294967296 := by
  have h1 : (a.tmod b).natAbs ≤ a.natAbs := by rw [Int.natAbs_tmod]; exact Nat.mod_le _ _
  omega
/-- Whether it can be: the ways that it can't. -/
theorem ok_ways (s wide : Bool) (a b : Int) : (divOk s wide a b = true ∧ b ≠ 0 ∧ divLeast s wide ≤ a.tdiv b ∧ a.tdiv b ≤ divMost s wide) ∨ (divOk s wide a b = false ∧ b = 0) ∨ (divOk s wide a b = false ∧ b ≠ 0 ∧ divMost s wide < a.tdiv b) ∨ (divOk s wide a b = false ∧ b ≠ 0 ∧ a.tdiv b ≤ divMost s wide ∧ a.tdiv b < divLeast s wide) := by
  unfold divOk
  by_cases h0 : b = 0
  · right; left; simp [h0]
  · by_cases h1 : divLeast s wide ≤ a.tdiv b
    · by_cases h2 : a.tdiv b ≤ divMost s wide
      · left; simp [h0, h1, h2]
      · right; right; left; simp [h0, h1, h2]; omega
    · by_cases h2 : a.tdiv b ≤ divMost s wide
      · right; right; right; simp [h0, h1, h2]; omega
      · right; right; left; simp [h0, h1, h2]; omega
/-! ### Decimal digits -/
def halfN (ax was : Nat) : Bool := decide (9 < ax % 16) || onB was 4
def overN (ax was : Nat) : Bool := decide (153 < ax % 256) || onB was 0
def byN (ax was : Nat) : Nat := (bif halfN ax was then 6 else 0) + (bif overN ax was then 96 else 0)
def decX (nm ax was : Nat) : Nat :=
  if nm = 13 then (bif halfN ax was then (ax % 256 + 6) % 16 else ax % 16) else if nm = 14 then (bif halfN ax was then (ax % 256 + 250) % 16 else ax % 16) else
  if nm = 11 then (ax % 256 + byN ax was) % 256 else (ax % 256 + 256 - byN ax was) % 256
def decY (nm ax was : Nat) : Nat :=
  if nm = 13 then (bif halfN ax was then (ax / 256 + 1) % 256 else ax / 256) else if nm = 14 then (bif halfN ax was then (ax / 256 + 255) % 256 else ax / 256) else ax / 256
def decF (nm ax was : Nat) : Nat :=
  if nm = 13 ∨ nm = 14 then (was &&& 2244) + (bif halfN ax was then 17 else 0) else
  (was &&& 2048) + fl 16 (halfN ax was) + fl 1 (overN ax was) + signsN false (decX nm ax was)
/-- AAM and AAD. -/
def adjM (ax : Nat) : Nat := ax % 256 % 10 + ax % 256 / 10 * 256
def adjD (ax : Nat) : Nat := (ax % 256 + 10 * (ax / 256)) % 256
def adjF (v was : Nat) : Nat := (was &&& 2065) + signsN false v
end Go.Proofs.Ytpkobahelnopmaa
