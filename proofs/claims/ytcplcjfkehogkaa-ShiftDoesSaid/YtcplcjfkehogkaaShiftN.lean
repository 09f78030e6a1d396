/- Shifts and turns, step by step, as plain arithmetic, and as lists of bits. No statement of the seat is proved here. -/
import Derived.Test.YtcplcjfkehogkaaAluN
namespace Go.Proofs.Ytcplcjfkehogkaa
open Go
set_option linter.unusedVariables false
set_option linter.unusedSimpArgs false

/-- One step: what comes, and what goes out. -/
def inN (name : Nat) (wide : Bool) (v c : Nat) : Nat :=
  if name = 63 then v / topN wide else if name = 64 then v % 2 else if name = 65 then c else if name = 66 then c else if name = 69 then v / topN wide else 0
def leftB (name : Nat) : Bool := name == 63 || name == 65 || name == 67
def stepN (name : Nat) (wide : Bool) (s : Nat × Nat) : Nat × Nat :=
  if leftB name then (s.1 * 2 % (2 * topN wide) + inN name wide s.1 s.2, s.1 / topN wide) else (s.1 / 2 + inN name wide s.1 s.2 * topN wide, s.1 % 2)
/-- So many steps. -/
def stepsN (name : Nat) (wide : Bool) : Nat → Nat × Nat → Nat × Nat
  | 0, s => s
  | k + 1, s => stepN name wide (stepsN name wide k s)
/-- The sign ahead of the last one. -/
def signAt (name : Nat) (wide : Bool) (k : Nat) (s : Nat × Nat) : Nat := if k = 0 then 0 else (stepsN name wide (k - 1) s).1 / topN wide
theorem topN_pos (wide : Bool) : 0 < topN wide := by cases wide <;> decide
theorem hi_le {wide : Bool} {v : Nat} (h : v < 2 * topN wide) : v / topN wide ≤ 1 := by
  have : v / topN wide < 2 := by rw [Nat.div_lt_iff_lt_mul (topN_pos wide)]; omega
  omega
theorem inN_le {name : Nat} {wide : Bool} {v c : Nat} (h : v < 2 * topN wide) (hc : c ≤ 1) : inN name wide v c ≤ 1 := by
  have := hi_le h
  unfold inN
  repeat' split
  all_goals omega
theorem stepN_ok {name : Nat} {wide : Bool} {s : Nat × Nat} (h : s.1 < 2 * topN wide) (hc : s.2 ≤ 1) : (stepN name wide s).1 < 2 * topN wide ∧ (stepN name wide s).2 ≤ 1 := by
  have h1 := hi_le h
  have h2 : inN name wide s.1 s.2 ≤ 1 := inN_le h hc
  unfold stepN
  split
  · refine ⟨?_, h1⟩
    have h3 : s.1 * 2 % (2 * topN wide) ≤ 2 * topN wide - 2 := by
      cases wide <;> simp only [topN, cond_true, cond_false] at * <;> omega
    have := topN_pos wide
    show s.1 * 2 % (2 * topN wide) + inN name wide s.1 s.2 < 2 * topN wide
    omega
  · refine ⟨?_, by show s.1 % 2 ≤ 1; omega⟩
    show s.1 / 2 + inN name wide s.1 s.2 * topN wide < 2 * topN wide
    rcases (by omega : inN name wide s.1 s.2 = 0 ∨ inN name wide s.1 s.2 = 1) with e | e <;> rw [e] <;> omega
theorem stepsN_ok {name : Nat} {wide : Bool} (k : Nat) {s : Nat × Nat} (h : s.1 < 2 * topN wide) (hc : s.2 ≤ 1) : (stepsN name wide k s).1 < 2 * topN wide ∧ (stepsN name wide k s).2 ≤ 1 := by
  induction k with
  | zero => exact ⟨h, hc⟩
  | succ k ih => exact stepN_ok ih.1 ih.2
theorem signAt_le {name : Nat} {wide : Bool} (k : Nat) {s : Nat × Nat} (h : s.1 < 2 * topN wide) (hc : s.2 ≤ 1) : signAt name wide k s ≤ 1 := by
  unfold signAt
  split
  · omega
  · exact hi_le (stepsN_ok _ h hc).1

/-! ### Bits in lists -/
theorem ofN_append (xs ys : List Nat) : ofN (xs ++ ys) = ofN xs + 2 ^ xs.length * ofN ys := by
  induction xs with
  | nil => simp [ofN]
  | cons x xs ih =>
    simp only [List.cons_append, ofN, ih, List.length_cons, Nat.pow_succ]
    rw [Nat.mul_add, Nat.mul_comm (2 ^ xs.length) 2, Nat.mul_assoc]; omega
/-- The lower ones, and the upper one. -/
theorem ofN_last {xs : List Nat} {m h : Nat} (hl : xs.length = m + 1) (hx : xs[m]? = some h) : ofN xs = ofN (xs.take m) + h * 2 ^ m := by
  have e : xs = xs.take m ++ [h] := by
    conv => lhs; rw [← List.take_of_length_le (Nat.le_of_eq hl)]
    rw [List.take_add_one, hx]; rfl
  conv => lhs; rw [e]
  rw [ofN_snoc, List.length_take_of_le (by omega)]
theorem take_ones {xs : List Nat} (h : ∀ x ∈ xs, x ≤ 1) (m : Nat) : ∀ x ∈ xs.take m, x ≤ 1 := fun x hx => h x (List.mem_of_mem_take hx)
theorem tail_ones {xs : List Nat} (h : ∀ x ∈ xs, x ≤ 1) : ∀ x ∈ xs.drop 1, x ≤ 1 := fun x hx => h x (List.mem_of_mem_drop hx)
/-- What stands there behind a step to the left, or to the right, before something comes in. -/
def goneL (xs : List Nat) (m : Nat) : List Nat := 0 :: xs.take m
def goneR (xs : List Nat) : List Nat := xs.drop 1 ++ [0]
theorem goneL_len {xs : List Nat} {m : Nat} (hl : xs.length = m + 1) : (goneL xs m).length = m + 1 := by simp [goneL, hl]
theorem goneR_len {xs : List Nat} {m : Nat} (hl : xs.length = m + 1) : (goneR xs).length = m + 1 := by simp [goneR, hl]
theorem goneL_zero (xs : List Nat) (m : Nat) : (goneL xs m)[0]? = some 0 := rfl
theorem goneL_next {xs : List Nat} {m k : Nat} (hk : k < m) : (goneL xs m)[k + 1]? = xs[k]? := by
  show (xs.take m)[k]? = xs[k]?
  rw [List.getElem?_take, if_pos hk]
theorem goneR_next {xs : List Nat} {m k : Nat} (hl : xs.length = m + 1) (hk : k < m) : (goneR xs)[k]? = xs[k + 1]? := by
  unfold goneR
  rw [List.getElem?_append_left (by rw [List.length_drop]; omega), List.getElem?_drop, Nat.add_comm]
theorem goneR_last {xs : List Nat} {m : Nat} (hl : xs.length = m + 1) : (goneR xs)[m]? = some 0 := by
  unfold goneR
  rw [List.getElem?_append_right (by rw [List.length_drop]; omega), List.length_drop, hl]
  simp
theorem setL (xs : List Nat) (m d : Nat) : (goneL xs m).set 0 d = d :: xs.take m := rfl
theorem setR {xs : List Nat} {m : Nat} (hl : xs.length = m + 1) (d : Nat) : (goneR xs).set m d = xs.drop 1 ++ [d] := by
  unfold goneR
  rw [List.set_append_right _ _ (by rw [List.length_drop]; omega), List.length_drop, hl]
  simp
/-- What these are as numbers. -/
theorem ofL {xs : List Nat} {wide : Bool} {h d : Nat} (hl : xs.length = sizeN wide) (h1 : ∀ x ∈ xs, x ≤ 1) (hx : xs[sizeN wide - 1]? = some h) : ofN (d :: xs.take (sizeN wide - 1)) = ofN xs * 2 % (2 * topN wide) + d ∧ ofN xs / topN wide = h := by
  have hs : sizeN wide - 1 + 1 = sizeN wide := by cases wide <;> rfl
  have e := ofN_last (m := sizeN wide - 1) (by rw [hl, hs]) hx
  have lt := ofN_lt _ (take_ones h1 (sizeN wide - 1))
  rw [List.length_take_of_le (by omega), ← top_pow] at lt
  rw [← top_pow] at e
  have hh : h ≤ 1 := h1 h (List.mem_of_getElem? hx)
  simp only [ofN]
  rw [e]
  generalize ofN (xs.take (sizeN wide - 1)) = T at *
  refine ⟨?_, ?_⟩
  · rw [show (T + h * topN wide) * 2 = T * 2 + (2 * topN wide) * h by rw [Nat.add_mul, Nat.mul_comm h, Nat.mul_assoc, Nat.mul_comm h, ← Nat.mul_assoc, Nat.mul_comm (topN wide) 2], Nat.add_mul_mod_self_left, Nat.mod_eq_of_lt (by omega)]
    omega
  · rw [Nat.add_mul_div_right _ _ (topN_pos wide), Nat.div_eq_of_lt lt, Nat.zero_add]
theorem ofR {xs : List Nat} {wide : Bool} {l d : Nat} (hl : xs.length = sizeN wide) (h1 : ∀ x ∈ xs, x ≤ 1) (hx : xs[0]? = some l) : ofN (xs.drop 1 ++ [d]) = ofN xs / 2 + d * topN wide ∧ ofN xs % 2 = l := by
  cases xs with
  | nil => simp at hx
  | cons x xs =>
    obtain rfl : x = l := by simpa using hx
    have hh : x ≤ 1 := h1 x (.head _)
    rw [List.drop_one, List.tail_cons, ofN_snoc, show xs.length = sizeN wide - 1 by simp at hl; omega, ← top_pow]
    simp only [ofN]
    refine ⟨?_, ?_⟩ <;> omega

/-! ### A row that is filled from its beginning -/
def fillN (t : List Nat) (k m : Nat) : List Nat := t.take k ++ List.replicate (m - k) 0
theorem fill_len {t : List Nat} {k m : Nat} (hl : t.length = m) (hk : k ≤ m) : (fillN t k m).length = m := by
  unfold fillN; rw [List.length_append, List.length_take_of_le (by omega), List.length_replicate]; omega
theorem fill_start (t : List Nat) (m : Nat) : fillN t 0 m = List.replicate m 0 := by simp [fillN]
theorem fill_end {t : List Nat} {m : Nat} (hl : t.length = m) : fillN t m m = t := by unfold fillN; rw [Nat.sub_self, List.take_of_length_le (by omega)]; simp
theorem fill_set {t : List Nat} {k m d : Nat} (hl : t.length = m) (hk : k < m) (ht : t[k]? = some d) : (fillN t k m).set k d = fillN t (k + 1) m := by
  unfold fillN
  rw [List.set_append_right _ _ (by rw [List.length_take_of_le (by omega)]; omega), List.length_take_of_le (by omega), Nat.sub_self, show m - k = (m - (k + 1)) + 1 by omega, List.replicate_succ, List.set_cons_zero, List.take_add_one, ht]
  simp
theorem fill_zero {t : List Nat} {k m : Nat} (hl : t.length = m) (hk : k < m) (ht : t[k]? = some 0) : fillN t k m = fillN t (k + 1) m := by
  unfold fillN
  rw [show m - k = (m - (k + 1)) + 1 by omega, List.replicate_succ, List.take_add_one, ht]
  simp
end Go.Proofs.Ytcplcjfkehogkaa
