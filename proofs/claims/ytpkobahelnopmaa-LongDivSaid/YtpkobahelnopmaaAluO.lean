/- What the program's tests on sums, differences and flags come to, in plain arithmetic. No statement of the seat is proved here. -/
import Derived.Test.YtpkobahelnopmaaAluN
import Derived.Test.YtpkobahelnopmaaBitsL
namespace Go.Proofs.Ytpkobahelnopmaa
open Go
set_option linter.unusedVariables false
set_option linter.unusedSimpArgs false

/-- An even number of ones in the lower byte. -/
def ev (v : Nat) : Bool := decide (onesZ 8 ((v : Int) % 256) % 2 = 0)
/-- All flags of a result that is cut. -/
def sumF (wide : Bool) (v : Nat) (c a o : Bool) : Nat := flagsN c (ev v) a (v == 0) (decide (topN wide ≤ v)) o
def addF (wide : Bool) (a b c : Nat) : Nat := sumF wide (addV wide a b c) (carN a b c (sizeN wide) == 1) (carN a b c 4 == 1) (carN a b c (sizeN wide) != carN a b c (sizeN wide - 1))
def subF (wide : Bool) (a b c : Nat) : Nat := sumF wide (subV wide a b c) (borN a b c (sizeN wide) == 1) (borN a b c 4 == 1) (borN a b c (sizeN wide) != borN a b c (sizeN wide - 1))
def signsN (wide : Bool) (x : Nat) : Nat := sumF wide (cutN wide x) false false false

theorem ev_cut (wide : Bool) (x : Nat) : ev (cutN wide x) = ev x := by
  cases wide
  · unfold ev
    have h : (((cutN false x : Nat) : Int) % 256) = (x : Int) % 256 := by simp only [cutN, cond_false]; omega
    simp only [h]
  · rfl
theorem top_on (wide : Bool) (x : Nat) (h : x < 2 * topN wide) : onB x (sizeN wide - 1) = decide (topN wide ≤ x) := by
  unfold onB bitN
  rw [Bool.beq_eq_decide_eq]
  cases wide
  · simp only [sizeN, topN, cond_false] at h ⊢; congr 1; simp; omega
  · simp only [sizeN, topN, cond_true] at h ⊢; congr 1; simp; omega

theorem xor_on (x y : Nat) (hx : x ≤ 1) (hy : y ≤ 1) : ((x == 1) ^^ (y == 1)) = ((x + y) % 2 == 1) := by
  rcases (by omega : x = 0 ∨ x = 1) with rfl | rfl <;> rcases (by omega : y = 0 ∨ y = 1) with rfl | rfl <;> rfl
theorem car_small {a b c k : Nat} (ha : a < 2 ^ k) (hb : b < 2 ^ k) : bitN a k = 0 ∧ bitN b k = 0 := by
  unfold bitN; rw [Nat.div_eq_of_lt ha, Nat.div_eq_of_lt hb]; exact ⟨rfl, rfl⟩
theorem bit_sum (a b c k : Nat) : bitN (a + b + c) k = (bitN a k + bitN b k + carN a b c k) % 2 := by
  unfold bitN carN
  have e : a + b + c = (a % 2 ^ k + b % 2 ^ k + c) + 2 ^ k * (a / 2 ^ k + b / 2 ^ k) := by
    have h1 := Nat.div_add_mod a (2 ^ k)
    have h2 := Nat.div_add_mod b (2 ^ k)
    rw [Nat.mul_add]; omega
  rw [e, Nat.add_mul_div_left _ _ (pow_pos2 k)]
  have h3 := Nat.div_add_mod a (2 ^ k)
  omega
theorem bit_wrap {x m k : Nat} (h : k < m) : bitN (x % 2 ^ m) k = bitN x k := by
  have h1 := bitN_test (x % 2 ^ m) k
  have h2 := bitN_test x k
  rw [Nat.testBit_mod_two_pow, decide_eq_true h, Bool.true_and, h2] at h1
  have := bitN_le x k
  have := bitN_le (x % 2 ^ m) k
  have h3 := decide_eq_decide.1 h1
  omega
theorem bit_word {x k : Nat} (h : k < 16) : bitN (x % 65536) k = bitN x k := by
  rw [show (65536 : Nat) = 2 ^ 16 by decide]; exact bit_wrap h
theorem bit_diff {a b c k m : Nat} (hc : c ≤ 1) (hk : k < m) (hs : b + c ≤ a + 2 ^ m) : bitN (a + 2 ^ m - (b + c)) k = (bitN a k + bitN b k + borN a b c k) % 2 := by
  have h1 := Nat.div_add_mod a (2 ^ k)
  have h2 := Nat.div_add_mod b (2 ^ k)
  have l1 := Nat.mod_lt a (pow_pos2 k)
  have l2 := Nat.mod_lt b (pow_pos2 k)
  have hm : 2 ^ m = 2 ^ k * (2 * 2 ^ (m - k - 1)) := by
    rw [← Nat.mul_assoc, ← Nat.pow_succ, ← Nat.pow_add]; congr 1; omega
  unfold bitN borN
  generalize hA : a / 2 ^ k = A at *
  generalize hB : b / 2 ^ k = B at *
  generalize hM : 2 ^ (m - k - 1) = M at *
  generalize hP : 2 ^ k = P at *
  have hPp : 0 < P := hP ▸ pow_pos2 k
  split
  · rename_i hlt
    have e : a + 2 ^ m - (b + c) = (P + a % P - (b % P + c)) + P * (A + 2 * M - B - 1) := by
      have hle : P * (B + 1) ≤ P * (A + 2 * M) := by
        apply Nat.mul_le_mul_left
        apply Nat.le_of_lt_succ
        apply Nat.lt_of_mul_lt_mul_left (a := P)
        rw [Nat.mul_succ P (A + 2 * M), Nat.mul_add P A, Nat.mul_succ P B]; omega
      rw [Nat.mul_sub, Nat.mul_sub, Nat.mul_one]
      rw [Nat.mul_add, Nat.mul_one] at hle
      rw [Nat.mul_add P A] at hle ⊢
      omega
    rw [e, Nat.add_mul_div_left _ _ hPp, Nat.div_eq_of_lt (by omega)]
    have hle : B + 1 ≤ A + 2 * M := by
      apply Nat.le_of_lt_succ
      apply Nat.lt_of_mul_lt_mul_left (a := P)
      rw [Nat.mul_succ P (A + 2 * M), Nat.mul_add P A, Nat.mul_succ P B]; omega
    omega
  · rename_i hlt
    have hle : B ≤ A + 2 * M := by
      apply Nat.le_of_lt_succ
      apply Nat.lt_of_mul_lt_mul_left (a := P)
      rw [Nat.mul_succ P (A + 2 * M), Nat.mul_add P A]; omega
    have e : a + 2 ^ m - (b + c) = (a % P - (b % P + c)) + P * (A + 2 * M - B) := by
      have hle2 := Nat.mul_le_mul_left P hle
      rw [Nat.mul_sub]
      rw [Nat.mul_add P A] at hle2 ⊢
      omega
    rw [e, Nat.add_mul_div_left _ _ hPp, Nat.div_eq_of_lt (by omega)]
    omega

/-- A sum as it is reckoned in greater numbers. -/
theorem tot_sum {wide : Bool} {a b c : Nat} (ha : a < 2 * topN wide) (hb : b < 2 * topN wide) (hc : c ≤ 1) :
    cutN wide ((a + b + c) % 65536) = addV wide a b c ∧ onB (a + b + c) (sizeN wide) = (carN a b c (sizeN wide) == 1)
    ∧ ((onB a 4 ^^ onB b 4) ^^ onB ((a + b + c) % 65536) 4) = (carN a b c 4 == 1)
    ∧ ((onB a (sizeN wide - 1) ^^ onB ((a + b + c) % 65536) (sizeN wide - 1)) && (onB b (sizeN wide - 1) ^^ onB ((a + b + c) % 65536) (sizeN wide - 1))) = (carN a b c (sizeN wide) != carN a b c (sizeN wide - 1)) := by
  have hs : sizeN wide - 1 < 16 := by cases wide <;> decide
  refine ⟨?_, ?_, ?_, ?_⟩
  · cases wide <;> simp only [cutN, addV, topN, cond_true, cond_false] at *; omega
  · have h := car_small (c := c) (k := sizeN wide) (by rw [← top_two]; exact ha) (by rw [← top_two]; exact hb)
    unfold onB
    rw [bit_sum, h.1, h.2]
    have := carN_le a b c (sizeN wide) hc
    congr 1; omega
  · have h1 := bitN_le a 4
    have h2 := bitN_le b 4
    have h3 := carN_le a b c 4 hc
    have h4 : bitN ((a + b + c) % 65536) 4 = _ := (bit_word (by omega)).trans (bit_sum a b c 4)
    unfold onB
    rw [xor_on _ _ h1 h2, xor_on _ _ (by omega) (bitN_le _ _), h4]
    congr 1; omega
  · have h1 := bitN_le a (sizeN wide - 1)
    have h2 := bitN_le b (sizeN wide - 1)
    have h3 := carN_le a b c (sizeN wide - 1) hc
    have h4 : bitN ((a + b + c) % 65536) (sizeN wide - 1) = _ := (bit_word hs).trans (bit_sum a b c (sizeN wide - 1))
    have h5 := carN_next a b c (sizeN wide - 1)
    rw [show sizeN wide - 1 + 1 = sizeN wide by cases wide <;> rfl] at h5
    unfold onB
    rw [h4, h5]
    generalize bitN a (sizeN wide - 1) = x at *
    generalize bitN b (sizeN wide - 1) = y at *
    generalize carN a b c (sizeN wide - 1) = z at *
    rcases (by omega : x = 0 ∨ x = 1) with rfl | rfl <;> rcases (by omega : y = 0 ∨ y = 1) with rfl | rfl <;> rcases (by omega : z = 0 ∨ z = 1) with rfl | rfl <;> rfl

/-- .. and a difference. -/
def totD (a b c : Nat) : Nat := (a + 4294967296 - (b + c)) % 4294967296
theorem tot_low (a b c : Nat) (h : b + c ≤ a + 65536) : totD a b c % 65536 = (a + 65536 - (b + c)) % 65536 := by unfold totD; omega
theorem cutN_f (x : Nat) : cutN false x = x % 256 := rfl
theorem cutN_t (x : Nat) : cutN true x = x := rfl
theorem subV_f (a b c : Nat) : subV false a b c = (a + 256 - (b + c)) % 256 := rfl
theorem subV_t (a b c : Nat) : subV true a b c = (a + 65536 - (b + c)) % 65536 := rfl
theorem tot_diff {wide : Bool} {a b c : Nat} (ha : a < 2 * topN wide) (hb : b < 2 * topN wide) (hc : c ≤ 1) :
    cutN wide (totD a b c % 65536) = subV wide a b c ∧ onB (totD a b c) (sizeN wide) = (borN a b c (sizeN wide) == 1)
    ∧ ((onB a 4 ^^ onB b 4) ^^ onB (totD a b c % 65536) 4) = (borN a b c 4 == 1)
    ∧ ((onB a (sizeN wide - 1) ^^ onB b (sizeN wide - 1)) && (onB a (sizeN wide - 1) ^^ onB (totD a b c % 65536) (sizeN wide - 1))) = (borN a b c (sizeN wide) != borN a b c (sizeN wide - 1)) := by
  have hs : sizeN wide - 1 < 16 := by cases wide <;> decide
  have ht := topN_le wide
  have hbit : ∀ k, k < 32 → bitN (totD a b c) k = (bitN a k + bitN b k + borN a b c k) % 2 := by
    intro k hk
    unfold totD
    rw [show (4294967296 : Nat) = 2 ^ 32 by decide, bit_wrap hk, bit_diff hc hk (by have : (2 : Nat) ^ 32 = 4294967296 := by decide
                                                                                    omega)]
  refine ⟨?_, ?_, ?_, ?_⟩
  · rw [tot_low a b c (by omega)]
    cases wide
    · rw [cutN_f, subV_f]; clear hbit hs ht; change a < 256 at ha; change b < 256 at hb; omega
    · rw [cutN_t, subV_t]
  · have h := car_small (c := c) (k := sizeN wide) (by rw [← top_two]; exact ha) (by rw [← top_two]; exact hb)
    unfold onB
    rw [hbit _ (by cases wide <;> decide), h.1, h.2]
    have := borN_le a b c (sizeN wide)
    congr 1; omega
  · have h1 := bitN_le a 4
    have h2 := bitN_le b 4
    have h3 := borN_le a b c 4
    have h4 : bitN (totD a b c % 65536) 4 = _ := (bit_word (by omega)).trans (hbit 4 (by omega))
    unfold onB
    rw [xor_on _ _ h1 h2, xor_on _ _ (by omega) (bitN_le _ _), h4]
    congr 1; omega
  · have h1 := bitN_le a (sizeN wide - 1)
    have h2 := bitN_le b (sizeN wide - 1)
    have h3 := borN_le a b c (sizeN wide - 1)
    have h4 : bitN (totD a b c % 65536) (sizeN wide - 1) = _ := (bit_word hs).trans (hbit (sizeN wide - 1) (by omega))
    have h5 := borN_next a b c (sizeN wide - 1) hc
    rw [show sizeN wide - 1 + 1 = sizeN wide by cases wide <;> rfl] at h5
    unfold onB
    rw [h4, h5]
    generalize bitN a (sizeN wide - 1) = x at *
    generalize bitN b (sizeN wide - 1) = y at *
    generalize borN a b c (sizeN wide - 1) = z at *
    rcases (by omega : x = 0 ∨ x = 1) with rfl | rfl <;> rcases (by omega : y = 0 ∨ y = 1) with rfl | rfl <;> rcases (by omega : z = 0 ∨ z = 1) with rfl | rfl <;> rfl

/-- What is cut, and then put together, is cut. -/
theorem cut_or (wide : Bool) (a b : Nat) : cutN wide (a ||| b) = cutN wide a ||| cutN wide b := by
  cases wide
  · exact Nat.or_mod_two_pow (n := 8)
  · rfl
theorem cut_and (wide : Bool) (a b : Nat) : cutN wide (a &&& b) = cutN wide a &&& cutN wide b := by
  cases wide
  · exact Nat.and_mod_two_pow (n := 8)
  · rfl
theorem cut_xor (wide : Bool) (a b : Nat) : cutN wide (a ^^^ b) = cutN wide a ^^^ cutN wide b := by
  cases wide
  · exact Nat.xor_mod_two_pow (n := 8)
  · rfl
theorem signs_cut (wide : Bool) (x : Nat) : signsN wide (cutN wide x) = signsN wide x := by unfold signsN; rw [cutN_cut]

/-- Added and taken away again. -/
theorem sub_add {wide : Bool} {a b : Nat} (ha : a < 2 * topN wide) (hb : b < 2 * topN wide) : subV wide (addV wide a b 0) b 0 = a := by
  cases wide <;> simp only [addV, subV, topN, cond_true, cond_false] at * <;> omega
theorem bor_car {wide : Bool} {a b : Nat} (ha : a < 2 * topN wide) (hb : b < 2 * topN wide) : borN (addV wide a b 0) b 0 (sizeN wide) = carN a b 0 (sizeN wide) := by
  have hs := addV_lt wide a b 0
  have hv : addV wide a b 0 = (a + b + 0) % (2 * topN wide) := rfl
  generalize addV wide a b 0 = v at *
  unfold borN carN
  rw [← top_two, Nat.mod_eq_of_lt ha, Nat.mod_eq_of_lt hb, Nat.mod_eq_of_lt hs]
  cases wide <;> simp only [topN, cond_true, cond_false] at * <;> split <;> omega
theorem sub_self (wide : Bool) {a : Nat} (ha : a < 2 * topN wide) : subV wide a a 0 = 0 := by
  cases wide <;> simp only [subV, topN, cond_true, cond_false] at * <;> omega
theorem bor_self (a k : Nat) : borN a a 0 k = 0 := by unfold borN; rw [if_neg (by omega)]
theorem subF_self (wide : Bool) {a : Nat} (ha : a < 2 * topN wide) : subF wide a a 0 = 68 := by
  unfold subF
  rw [sub_self wide ha, bor_self, bor_self, bor_self]
  cases wide <;> decide +kernel
theorem neg_neg {wide : Bool} {a : Nat} (ha : a < 2 * topN wide) : subV wide 0 (subV wide 0 a 0) 0 = a := by
  cases wide <;> simp only [subV, topN, cond_true, cond_false] at * <;> omega
theorem xor_back (wide : Bool) {s b : Nat} (hs : s < 2 * topN wide) : cutN wide (cutN wide (s ^^^ b) ^^^ b) = s := by
  rw [cut_xor, cutN_cut, ← cut_xor, Nat.xor_assoc, Nat.xor_self, Nat.xor_zero, cutN_id hs]
theorem flag_c : ∀ c p a z s o : Bool, decide (flagsN c p a z s o &&& 1 = 0) = !c := by decide
end Go.Proofs.Ytpkobahelnopmaa
