/- Sums, differences and what comes of two numbers bit by bit, with their flags, as plain arithmetic: what goes from bit to bit, and what the numbers' tests tell. No statement of the seat is proved here. -/
import Derived.Laws.BitsAllLaws
namespace Go.Proofs.Ytpkobahelnopmaa
open Go
set_option linter.unusedVariables false
set_option linter.unusedSimpArgs false

/-- A number's bit. -/
def bitN (x i : Nat) : Nat := x / 2 ^ i % 2
theorem bitN_le (x i : Nat) : bitN x i ≤ 1 := by unfold bitN; omega
theorem bitN_test (x i : Nat) : x.testBit i = decide (bitN x i = 1) := Nat.testBit_eq_decide_div_mod_eq
/-- How many bits count, and the upper one. -/
def sizeN (wide : Bool) : Nat := bif wide then 16 else 8
def topN (wide : Bool) : Nat := bif wide then 32768 else 128
def cutN (wide : Bool) (x : Nat) : Nat := bif wide then x else x % 256
theorem cutN_le {wide : Bool} {x : Nat} (h : x ≤ 65535) : cutN wide x ≤ 65535 := by cases wide <;> simp only [cutN, cond_true, cond_false] <;> omega
theorem cutN_lt {wide : Bool} {x : Nat} (h : x ≤ 65535) : cutN wide x < 2 * topN wide := by cases wide <;> simp only [cutN, topN, cond_true, cond_false] <;> omega
theorem cutN_id {wide : Bool} {x : Nat} (h : x < 2 * topN wide) : cutN wide x = x := by
  cases wide <;> simp only [cutN, topN, cond_true, cond_false] at h ⊢; omega
theorem cutN_cut (wide : Bool) (x : Nat) : cutN wide (cutN wide x) = cutN wide x := by cases wide <;> simp [cutN]
theorem top_pow (wide : Bool) : topN wide = 2 ^ (sizeN wide - 1) := by cases wide <;> rfl
theorem top_two (wide : Bool) : 2 * topN wide = 2 ^ sizeN wide := by cases wide <;> rfl
theorem topN_le (wide : Bool) : topN wide ≤ 32768 := by cases wide <;> decide

/-- A flag, if it is on. -/
def fl (k : Nat) (on : Bool) : Nat := bif on then k else 0
theorem fl_le (k : Nat) (on : Bool) : fl k on ≤ k := by cases on <;> simp [fl]
/-- The number of flags. -/
def flagsN (c p a z s o : Bool) : Nat := fl 1 c + fl 4 p + fl 16 a + fl 64 z + fl 128 s + fl 2048 o
theorem flagsN_le (c p a z s o : Bool) : flagsN c p a z s o ≤ 2261 := by
  have := fl_le 1 c; have := fl_le 4 p; have := fl_le 16 a; have := fl_le 64 z; have := fl_le 128 s; have := fl_le 2048 o
  unfold flagsN; omega
theorem or_signs : ∀ s z p : Bool, (fl 128 s ||| fl 64 z) ||| fl 4 p = flagsN false p false z s false := by decide
theorem or_flags : ∀ c p a z s o : Bool, ((fl 1 c ||| fl 16 a) ||| fl 2048 o) ||| flagsN false p false z s false = flagsN c p a z s o := by decide
theorem and_two (x i : Nat) : (x &&& 2 ^ i = 0) ↔ bitN x i = 0 := by
  constructor
  · intro h
    have h1 : (x &&& 2 ^ i).testBit i = false := by rw [h, Nat.zero_testBit]
    rw [Nat.testBit_and, Nat.testBit_two_pow_self, Bool.and_true, bitN_test] at h1
    have := bitN_le x i
    have := of_decide_eq_false h1
    omega
  · intro h
    apply Nat.eq_of_testBit_eq
    intro j
    rw [Nat.testBit_and, Nat.zero_testBit, Nat.testBit_two_pow]
    by_cases e : i = j
    · subst e; rw [bitN_test, h]; rfl
    · simp [e]
/-- Whether a bit is set. -/
def onB (x i : Nat) : Bool := bitN x i == 1
theorem and_on (x i : Nat) : decide (x &&& 2 ^ i = 0) = !onB x i := by
  have := bitN_le x i
  by_cases h : bitN x i = 0
  · rw [decide_eq_true ((and_two x i).2 h)]; simp [onB, h]
  · rw [decide_eq_false (fun e => h ((and_two x i).1 e))]; have : bitN x i = 1 := by omega
    simp [onB, this]
theorem on_test (x i : Nat) : onB x i = x.testBit i := by rw [bitN_test]; simp [onB, Bool.beq_eq_decide_eq]
theorem on_xor (x y i : Nat) : onB (x ^^^ y) i = (onB x i ^^ onB y i) := by rw [on_test, on_test, on_test, Nat.testBit_xor]
theorem on_and (x y i : Nat) : onB (x &&& y) i = (onB x i && onB y i) := by rw [on_test, on_test, on_test, Nat.testBit_and]
theorem on_or (x y i : Nat) : onB (x ||| y) i = (onB x i || onB y i) := by rw [on_test, on_test, on_test, Nat.testBit_or]

/-- The number of bits, the lowest first. -/
def ofN : List Nat → Nat
  | [] => 0
  | b :: bs => b + 2 * ofN bs
theorem ofN_snoc (bs : List Nat) (b : Nat) : ofN (bs ++ [b]) = ofN bs + b * 2 ^ bs.length := by
  induction bs with
  | nil => simp [ofN]
  | cons c bs ih =>
    simp only [List.cons_append, ofN, ih, List.length_cons, Nat.pow_succ]
    have : b * (2 ^ bs.length * 2) = 2 * (b * 2 ^ bs.length) := by rw [Nat.mul_comm (2 ^ bs.length) 2, Nat.mul_left_comm]
    omega
theorem ofN_lt (bs : List Nat) (h : ∀ b ∈ bs, b ≤ 1) : ofN bs < 2 ^ bs.length := by
  induction bs with
  | nil => simp [ofN]
  | cons c bs ih =>
    have := ih fun b hb => h b (.tail _ hb)
    have := h c (.head _)
    simp only [ofN, List.length_cons, Nat.pow_succ]
    omega

/-- What goes from bit to bit: of a sum, and of a difference. -/
def carN (a b c k : Nat) : Nat := (a % 2 ^ k + b % 2 ^ k + c) / 2 ^ k
def borN (a b c k : Nat) : Nat := if a % 2 ^ k < b % 2 ^ k + c then 1 else 0
theorem pow_pos2 (k : Nat) : 0 < 2 ^ k := Nat.pow_pos (by decide)
theorem mod_next (a k : Nat) : a % 2 ^ (k + 1) = a % 2 ^ k + 2 ^ k * bitN a k := Nat.mod_pow_succ
theorem carN_le (a b c k : Nat) (hc : c ≤ 1) : carN a b c k ≤ 1 := by
  have := Nat.mod_lt a (pow_pos2 k)
  have := Nat.mod_lt b (pow_pos2 k)
  have : carN a b c k < 2 := by unfold carN; rw [Nat.div_lt_iff_lt_mul (pow_pos2 k)]; omega
  omega
theorem carN_zero (a b c : Nat) : carN a b c 0 = c := by simp [carN, Nat.mod_one]
theorem carN_next (a b c k : Nat) : carN a b c (k + 1) = (bitN a k + bitN b k + carN a b c k) / 2 := by
  unfold carN
  rw [mod_next, mod_next, Nat.pow_succ, ← Nat.div_div_eq_div_mul]
  rw [show a % 2 ^ k + 2 ^ k * bitN a k + (b % 2 ^ k + 2 ^ k * bitN b k) + c = (a % 2 ^ k + b % 2 ^ k + c) + 2 ^ k * (bitN a k + bitN b k) by rw [Nat.mul_add]; omega]
  rw [Nat.add_mul_div_left _ _ (pow_pos2 k), Nat.add_comm]
theorem borN_le (a b c k : Nat) : borN a b c k ≤ 1 := by unfold borN; split <;> omega
theorem borN_zero (a b c : Nat) (hc : c ≤ 1) : borN a b c 0 = c := by
  unfold borN; simp only [Nat.pow_zero, Nat.mod_one]; split <;> omega
theorem borN_next (a b c k : Nat) (hc : c ≤ 1) : borN a b c (k + 1) = if bitN a k < bitN b k + borN a b c k then 1 else 0 := by
  have h1 := Nat.mod_lt a (pow_pos2 k)
  have h2 := Nat.mod_lt b (pow_pos2 k)
  have h3 := bitN_le a k
  have h4 := bitN_le b k
  unfold borN
  rw [mod_next, mod_next]
  generalize 2 ^ k = P at *
  rcases (by omega : bitN a k = 0 ∨ bitN a k = 1) with ha | ha <;> rcases (by omega : bitN b k = 0 ∨ bitN b k = 1) with hb | hb <;> rw [ha, hb] <;> simp only [Nat.mul_zero, Nat.mul_one] <;> (repeat' split) <;> omega
/-- One bit more of a sum, and of a difference. -/
theorem sum_next {a b c k : Nat} {bs : List Nat} (hl : bs.length = k) (h : ofN bs + 2 ^ k * carN a b c k = a % 2 ^ k + b % 2 ^ k + c) :
    ofN (bs ++ [(bitN a k + bitN b k + carN a b c k) % 2]) + 2 ^ (k + 1) * carN a b c (k + 1) = a % 2 ^ (k + 1) + b % 2 ^ (k + 1) + c := by
  rw [ofN_snoc, hl, carN_next, mod_next, mod_next, Nat.pow_succ]
  generalize hs : bitN a k + bitN b k + carN a b c k = s at *
  have hm : 2 ^ k * 2 * (s / 2) + s % 2 * 2 ^ k = 2 ^ k * s := by
    rw [Nat.mul_assoc, Nat.mul_comm (s % 2), ← Nat.mul_add]; congr 1; omega
  have hs2 : 2 ^ k * s = 2 ^ k * bitN a k + 2 ^ k * bitN b k + 2 ^ k * carN a b c k := by rw [← hs, Nat.mul_add, Nat.mul_add]
  omega
theorem diff_next {a b c k d : Nat} {bs : List Nat} (hl : bs.length = k) (h : ofN bs + b % 2 ^ k + c = a % 2 ^ k + 2 ^ k * borN a b c k) (hd : d + bitN b k + borN a b c k = bitN a k + 2 * borN a b c (k + 1)) :
    ofN (bs ++ [d]) + b % 2 ^ (k + 1) + c = a % 2 ^ (k + 1) + 2 ^ (k + 1) * borN a b c (k + 1) := by
  rw [ofN_snoc, hl, mod_next, mod_next, Nat.pow_succ]
  generalize hP : 2 ^ k = P at *
  have h1 : P * d + P * bitN b k + P * borN a b c k = P * bitN a k + P * 2 * borN a b c (k + 1) := by
    rw [← Nat.mul_add, ← Nat.mul_add, hd, Nat.mul_add, Nat.mul_assoc]
  rw [Nat.mul_comm d P]
  omega
theorem bits_next {V k : Nat} {bs : List Nat} (hl : bs.length = k) (h : ofN bs = V % 2 ^ k) : ofN (bs ++ [bitN V k]) = V % 2 ^ (k + 1) := by
  rw [ofN_snoc, hl, h, mod_next, Nat.mul_comm]

/-- What a sum comes to, and a difference. -/
def addV (wide : Bool) (a b c : Nat) : Nat := (a + b + c) % (2 * topN wide)
def subV (wide : Bool) (a b c : Nat) : Nat := (a + 2 * topN wide - (b + c)) % (2 * topN wide)
theorem addV_lt (wide : Bool) (a b c : Nat) : addV wide a b c < 2 * topN wide := Nat.mod_lt _ (by cases wide <;> decide)
theorem subV_lt (wide : Bool) (a b c : Nat) : subV wide a b c < 2 * topN wide := Nat.mod_lt _ (by cases wide <;> decide)
theorem sum_end {wide : Bool} {a b c : Nat} {bs : List Nat} (ha : a < 2 * topN wide) (hb : b < 2 * topN wide) (hc : c ≤ 1) (hl : bs.length = sizeN wide) (hx : ∀ x ∈ bs, x ≤ 1) (h : ofN bs + 2 ^ sizeN wide * carN a b c (sizeN wide) = a % 2 ^ sizeN wide + b % 2 ^ sizeN wide + c) : ofN bs = addV wide a b c := by
  have h1 := ofN_lt bs hx
  have h2 := carN_le a b c (sizeN wide) hc
  rw [hl] at h1
  rw [← top_two] at h h1
  rw [Nat.mod_eq_of_lt ha, Nat.mod_eq_of_lt hb] at h
  unfold addV
  rw [← h, Nat.add_mul_mod_self_left, Nat.mod_eq_of_lt h1]
theorem diff_end {wide : Bool} {a b c : Nat} {bs : List Nat} (ha : a < 2 * topN wide) (hb : b < 2 * topN wide) (hc : c ≤ 1) (hl : bs.length = sizeN wide) (hx : ∀ x ∈ bs, x ≤ 1) (h : ofN bs + b % 2 ^ sizeN wide + c = a % 2 ^ sizeN wide + 2 ^ sizeN wide * borN a b c (sizeN wide)) : ofN bs = subV wide a b c := by
  have h1 := ofN_lt bs hx
  have h2 := borN_le a b c (sizeN wide)
  rw [hl] at h1
  rw [← top_two] at h h1
  rw [Nat.mod_eq_of_lt ha, Nat.mod_eq_of_lt hb] at h
  unfold subV
  generalize 2 * topN wide = S at *
  rcases (by omega : borN a b c (sizeN wide) = 0 ∨ borN a b c (sizeN wide) = 1) with e | e
  · rw [e] at h
    rw [show a + S - (b + c) = ofN bs + S by omega, Nat.add_mod_right, Nat.mod_eq_of_lt h1]
  · rw [e] at h
    rw [show a + S - (b + c) = ofN bs by omega, Nat.mod_eq_of_lt h1]
end Go.Proofs.Ytpkobahelnopmaa
