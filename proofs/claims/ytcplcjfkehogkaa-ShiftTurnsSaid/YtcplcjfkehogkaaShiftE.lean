




/- What the program's shifts come to, step by step, and what they are in plain arithmetic. No walk is here, and no statement of the seat is proved here. -/
import Derived.Test.YtcplcjfkehogkaaShiftR
import Derived.Test.YtcplcjfkehogkaaAluC
namespace Go.Proofs.Ytcplcjfkehogkaa
open Go.ChangeShapes Go.WideShapes Go.ChangeAt Go.RowKit
set_option linter.unusedVariables false
set_option linter.unusedSimpArgs false

/-- A number between two steps. -/
structure NumS where
  v : Nat
  c : Bool
  wide : Bool
def NumS.ok (x : NumS) : Prop := x.v < 2 * topN x.wide
def encS (x : NumS) : Array Value := #[.int .u16 (x.v : Int), .bool x.c, .bool x.wide]
def zeroS : NumS := ⟨0, false, false⟩
def upS (x : NumS) : Bool := decide (topN x.wide ≤ x.v)
def loS (x : NumS) : Bool := x.v % 2 == 1
def leftS (x : NumS) (i : Bool) : NumS := ⟨x.v * 2 % (2 * topN x.wide) + fl 1 i, upS x, x.wide⟩
def rightS (x : NumS) (i : Bool) : NumS := ⟨x.v / 2 + fl (topN x.wide) i, loS x, x.wide⟩
def stepS (nm : Nat) (x : NumS) : NumS :=
  if nm = 63 then leftS x (upS x) else if nm = 64 then rightS x (loS x) else if nm = 65 then leftS x x.c else if nm = 66 then rightS x x.c else if nm = 67 then leftS x false else if nm = 68 then rightS x false else rightS x (upS x)
def itS (nm : Nat) : Nat → NumS → NumS
  | 0, x => x
  | k + 1, x => stepS nm (itS nm k x)
/-- What it was ahead of the last step. -/
def agoS (nm : Nat) (k : Nat) (x : NumS) : NumS := if k = 0 then zeroS else itS nm (k - 1) x
def fromS (wide : Bool) (v was : Nat) : NumS := ⟨cutN wide v, was % 2 == 1, wide⟩

theorem up_fl {x : NumS} (h : x.ok) : x.v / topN x.wide = fl 1 (upS x) := by
  have := topN_pos x.wide
  unfold NumS.ok at h
  unfold upS
  by_cases e : topN x.wide ≤ x.v
  · rw [decide_eq_true e]; show _ = 1
    have h1 : 1 ≤ x.v / topN x.wide := by rw [Nat.le_div_iff_mul_le this]; omega
    have := hi_le h
    omega
  · rw [decide_eq_false e]; exact Nat.div_eq_of_lt (by omega)
theorem lo_fl (x : NumS) : x.v % 2 = fl 1 (loS x) := by
  unfold loS
  rcases (by omega : x.v % 2 = 0 ∨ x.v % 2 = 1) with e | e <;> rw [e] <;> rfl
theorem fl_mul (k : Nat) (b : Bool) : fl k b = fl 1 b * k := by cases b <;> simp [fl]
theorem fl_inj {a b : Bool} (h : fl 1 a = fl 1 b) : a = b := by cases a <;> cases b <;> first | rfl | exact absurd h (by decide)
theorem step_same {nm : Nat} (h1 : 63 ≤ nm) (h2 : nm ≤ 69) {x : NumS} (h : x.ok) : (stepS nm x).wide = x.wide ∧ ((stepS nm x).v, fl 1 (stepS nm x).c) = stepN nm x.wide (x.v, fl 1 x.c) := by
  have hu := up_fl h
  have hl := lo_fl x
  rcases (by omega : nm = 63 ∨ nm = 64 ∨ nm = 65 ∨ nm = 66 ∨ nm = 67 ∨ nm = 68 ∨ nm = 69) with rfl | rfl | rfl | rfl | rfl | rfl | rfl <;>
    refine ⟨rfl, Prod.ext ?_ ?_⟩ <;> simp only [stepS, stepN, leftS, rightS, inN, leftB] <;> simp <;> first | exact hu.symm | exact hl.symm | (rw [hu]; done) | (rw [fl_mul, hl]; done) | (rw [hu]; exact fl_mul _ _) | (rw [fl_mul]; done) | (simp [fl]; done) | rfl
theorem step_ok {nm : Nat} (h1 : 63 ≤ nm) (h2 : nm ≤ 69) {x : NumS} (h : x.ok) : (stepS nm x).ok := by
  obtain ⟨e1, e2⟩ := step_same h1 h2 h
  have h3 := (stepN_ok (name := nm) (wide := x.wide) (s := (x.v, fl 1 x.c)) h (fl_le 1 x.c)).1
  rw [← e2, ← e1] at h3
  exact h3
theorem it_ok {nm : Nat} (h1 : 63 ≤ nm) (h2 : nm ≤ 69) {x : NumS} (h : x.ok) (k : Nat) : (itS nm k x).ok := by
  induction k with
  | zero => exact h
  | succ k ih => exact step_ok h1 h2 ih
theorem it_same {nm : Nat} (h1 : 63 ≤ nm) (h2 : nm ≤ 69) {x : NumS} (h : x.ok) (k : Nat) : (itS nm k x).wide = x.wide ∧ ((itS nm k x).v, fl 1 (itS nm k x).c) = stepsN nm x.wide k (x.v, fl 1 x.c) := by
  induction k with
  | zero => exact ⟨rfl, rfl⟩
  | succ k ih =>
    have hs := step_same h1 h2 (it_ok h1 h2 h k)
    refine ⟨hs.1.trans ih.1, ?_⟩
    show ((stepS nm (itS nm k x)).v, fl 1 (stepS nm (itS nm k x)).c) = stepN nm x.wide (stepsN nm x.wide k (x.v, fl 1 x.c))
    rw [hs.2, ih.1, ih.2]
theorem zero_ok : zeroS.ok := by unfold NumS.ok zeroS; decide
theorem ago_ok {nm : Nat} (h1 : 63 ≤ nm) (h2 : nm ≤ 69) {x : NumS} (h : x.ok) (k : Nat) : (agoS nm k x).ok := by
  unfold agoS
  split
  · exact zero_ok
  · exact it_ok h1 h2 h _
theorem from_ok (wide : Bool) {v : Nat} (was : Nat) (h : v ≤ 65535) : (fromS wide v was).ok := cutN_lt h
theorem from_start (wide : Bool) (v was : Nat) : ((fromS wide v was).v, fl 1 (fromS wide v was).c) = startN wide v was := by
  refine Prod.ext rfl ?_
  show fl 1 (was % 2 == 1) = was % 2
  rcases (by omega : was % 2 = 0 ∨ was % 2 = 1) with e | e <;> rw [e] <;> rfl
/-- The value and the flags, of what the program reckons. -/
def carS (x : NumS) (o : Bool) : Int := bits .or .u16 (flZ 1 x.c) (flZ 2048 o)
theorem turn_fin : ∀ a b : Fin 64, ∀ c o : Bool, (fl 1 c ||| fl 2048 o) ||| ((a.val * 64 + b.val) &&& 212) = (bif o then (bif c then (((a.val * 64 + b.val) &&& 2261) &&& 63486) ||| 1 else ((a.val * 64 + b.val) &&& 2261) &&& 63486) ||| 2048 else (bif c then (((a.val * 64 + b.val) &&& 2261) &&& 63486) ||| 1 else ((a.val * 64 + b.val) &&& 2261) &&& 63486)) := by decide +kernel
theorem turn_nat (x : Nat) (h : x < 4096) (c o : Bool) : (fl 1 c ||| fl 2048 o) ||| (x &&& 212) = (bif o then (bif c then ((x &&& 2261) &&& 63486) ||| 1 else (x &&& 2261) &&& 63486) ||| 2048 else (bif c then ((x &&& 2261) &&& 63486) ||| 1 else (x &&& 2261) &&& 63486)) := by
  have e := turn_fin ⟨x / 64, by omega⟩ ⟨x % 64, by omega⟩ c o
  have e2 : x / 64 * 64 + x % 64 = x := by omega
  simp only [e2] at e
  exact e
theorem out_nat : ∀ c o p z s : Bool, (fl 1 c ||| fl 2048 o) ||| flagsN false p false z s false = (bif o then (bif c then (flagsN false p false z s false &&& 63486) ||| 1 else flagsN false p false z s false &&& 63486) ||| 2048 else (bif c then (flagsN false p false z s false &&& 63486) ||| 1 else flagsN false p false z s false &&& 63486)) := by decide +kernel
theorem and_low (x m : Nat) (h : m < 4096) : x &&& m = x % 4096 &&& m := by
  apply Nat.eq_of_testBit_eq
  intro i
  rw [Nat.testBit_and, Nat.testBit_and, show (4096 : Nat) = 2 ^ 12 by decide, Nat.testBit_mod_two_pow]
  by_cases e : i < 12
  · simp [e]
  · rw [Nat.testBit_lt_two_pow (Nat.lt_of_lt_of_le h (show 2 ^ 12 ≤ 2 ^ i from Nat.pow_le_pow_right (by decide) (by omega)))]; simp
theorem shCO {b : Nat} (hb : b ≤ 65535) (c o : Bool) {cn s u : Nat} (hc : cn = fl 1 c) (ho : o = (u != s)) : shO (shC (bits .andNot .u16 (b : Int) 2049) cn) s u = ((bif o then (bif c then (b &&& 63486) ||| 1 else b &&& 63486) ||| 2048 else (bif c then (b &&& 63486) ||| 1 else b &&& 63486) : Nat) : Int) := by
  have h1 : b &&& 63486 ≤ 65535 := and_le (by decide)
  have e := u16_andNot_nat b 2049 (by omega) (by decide)
  have e1 : bits .andNot .u16 (b : Int) 2049 = ((b &&& 63486 : Nat) : Int) := e
  rw [e1]
  unfold shO shC
  subst hc ho
  have o1 : ∀ x : Nat, x ≤ 65535 → bits .or .u16 (x : Int) 1 = (x ||| 1 : Nat) := fun x h => or_natZ x 1 h (by decide)
  have o2 : ∀ x : Nat, x ≤ 65535 → bits .or .u16 (x : Int) 2048 = (x ||| 2048 : Nat) := fun x h => or_natZ x 2048 h (by decide)
  have h2 : (b &&& 63486) ||| 1 ≤ 65535 := or_le h1 (by decide)
  cases c
  · by_cases e : s = u
    · subst e; simp [fl]
    · have : (u != s) = true := by simp; omega
      simp [fl, e, this, o2 _ h1]
  · by_cases e : s = u
    · subst e; simp [fl, o1 _ h1]
    · have : (u != s) = true := by simp; omega
      simp [fl, e, this, o1 _ h1, o2 _ h2]
theorem car_nat (c o : Bool) : bits .or .u16 (flZ 1 c) (flZ 2048 o) = (fl 1 c ||| fl 2048 o : Nat) := by
  rw [flZ_1, flZ_2048]; exact or_natZ _ _ (fl_word _ _ (by decide)) (fl_word _ _ (by decide))
theorem car_le (c o : Bool) : fl 1 c ||| fl 2048 o ≤ 65535 := or_le (fl_word _ _ (by decide)) (fl_word _ _ (by decide))
theorem o_same {nm n : Nat} (h1 : 63 ≤ nm) (h2 : nm ≤ 69) (h0 : n ≠ 0) {x : NumS} (h : x.ok) : (upS (itS nm n x) != upS (agoS nm n x)) = ((stepsN nm x.wide n (x.v, fl 1 x.c)).1 / topN x.wide != signAt nm x.wide n (x.v, fl 1 x.c)) := by
  unfold signAt agoS
  rw [if_neg h0, if_neg h0]
  obtain ⟨a1, a2⟩ := it_same h1 h2 h n
  obtain ⟨b1, b2⟩ := it_same h1 h2 h (n - 1)
  have ua := up_fl (it_ok h1 h2 h n)
  have ub := up_fl (it_ok h1 h2 h (n - 1))
  rw [← a2, ← b2]
  rw [a1] at ua
  rw [b1] at ub
  simp only [ua, ub]
  cases upS (itS nm n x) <;> cases upS (itS nm (n - 1) x) <;> rfl
theorem value_same {nm : Nat} (h1 : 63 ≤ nm) (h2 : nm ≤ 69) (wide : Bool) {v : Nat} (n was : Nat) (h : v ≤ 65535) : (itS nm n (fromS wide v was)).v = shV nm wide v n was := by
  have e := (it_same h1 h2 (from_ok wide was h) n).2
  rw [from_start] at e
  exact congrArg Prod.fst e
theorem turn_same {nm n : Nat} (h1 : 63 ≤ nm) (h2 : nm ≤ 66) (h0 : n ≠ 0) (wide : Bool) {v was : Nat} (h : v ≤ 65535) (hw : was ≤ 65535) :
    bits .or .u16 (bits .or .u16 (flZ 1 (itS nm n (fromS wide v was)).c) (flZ 2048 (upS (itS nm n (fromS wide v was)) != upS (agoS nm n (fromS wide v was))))) (bits .and .u16 was 212) = shF nm wide v n was := by
  have hok := from_ok wide was h
  have e := (it_same h1 (by omega) hok n).2
  have ho := o_same h1 (by omega : nm ≤ 69) h0 hok
  rw [from_start] at e ho
  have hc := (congrArg Prod.snd e).symm
  unfold shF
  rw [if_neg h0]
  show _ = shO (shC (bits .andNot .u16 (shBase nm wide (stepsN nm wide n (startN wide v was)).1 was) 2049) (stepsN nm wide n (startN wide v was)).2) (signAt nm wide n (startN wide v was)) ((stepsN nm wide n (startN wide v was)).1 / topN wide)
  rw [show shBase nm wide (stepsN nm wide n (startN wide v was)).1 was = bits .and .u16 was 2261 from if_neg (by omega)]
  have a1 : bits .and .u16 (was : Int) 212 = (was &&& 212 : Nat) := and_word was 212 hw (by decide)
  have a2 : bits .and .u16 (was : Int) 2261 = (was &&& 2261 : Nat) := and_word was 2261 hw (by decide)
  rw [a1, a2, car_nat, or_natZ _ _ (car_le _ _) (and_le (by decide))]
  refine Eq.trans ?_ (shCO (and_le (by decide)) _ _ hc ho).symm
  rw [and_low was 212 (by decide), and_low was 2261 (by decide)]
  exact congrArg _ (turn_nat _ (Nat.mod_lt _ (by decide)) _ _)
theorem out_same {nm n : Nat} (h1 : 67 ≤ nm) (h2 : nm ≤ 69) (h0 : n ≠ 0) (wide : Bool) {v was : Nat} (h : v ≤ 65535) (hw : was ≤ 65535) :
    bits .or .u16 (bits .or .u16 (flZ 1 (itS nm n (fromS wide v was)).c) (flZ 2048 (upS (itS nm n (fromS wide v was)) != upS (agoS nm n (fromS wide v was))))) (signsN wide (shV nm wide v n was) : Nat) = shF nm wide v n was := by
  have hok := from_ok wide was h
  have e := (it_same (by omega : 63 ≤ nm) h2 hok n).2
  have ho := o_same (by omega : 63 ≤ nm) h2 h0 hok
  rw [from_start] at e ho
  have hc := (congrArg Prod.snd e).symm
  unfold shF
  rw [if_neg h0]
  show _ = shO (shC (bits .andNot .u16 (shBase nm wide (stepsN nm wide n (startN wide v was)).1 was) 2049) (stepsN nm wide n (startN wide v was)).2) (signAt nm wide n (startN wide v was)) ((stepsN nm wide n (startN wide v was)).1 / topN wide)
  rw [show shBase nm wide (stepsN nm wide n (startN wide v was)).1 was = (signsN wide (shV nm wide v n was) : Nat) from if_pos h1]
  rw [car_nat, or_natZ _ _ (car_le _ _) (Nat.le_trans (signsN_le _ _) (by decide))]
  refine Eq.trans ?_ (shCO (Nat.le_trans (signsN_le _ _) (by decide)) _ _ hc ho).symm
  exact congrArg _ (out_nat _ _ _ _ _)
/-! ### What the operations come to -/
theorem left_num {x : NumS} (h : x.ok) (i : Bool) {z : Int} (hz : z = (cutN x.wide (x.v * 2 % 65536) : Nat)) : bits .or .u16 z (flZ 1 i) = ((leftS x i).v : Int) := by
  have e : cutN x.wide (x.v * 2 % 65536) = x.v * 2 % (2 * topN x.wide) := by
    cases hw : x.wide <;> simp only [cutN, topN, cond_true, cond_false] <;> omega
  have ht := topN_le x.wide
  have hlt := Nat.mod_lt (x.v * 2) (show 0 < 2 * topN x.wide by have := topN_pos x.wide; omega)
  rw [hz, e, flZ_1, or_natZ _ _ (by omega) (fl_word _ _ (by decide))]
  show _ = ((x.v * 2 % (2 * topN x.wide) + fl 1 i : Nat) : Int)
  have e2 : x.v * 2 % (2 * topN x.wide) = 2 ^ 1 * (x.v % topN x.wide) := by rw [Nat.mul_comm, Nat.mul_mod_mul_left]
  rw [e2, Nat.two_pow_add_eq_or_of_lt (show fl 1 i < 2 ^ 1 by have := fl_le 1 i; omega)]
theorem right_num {x : NumS} (h : x.ok) (i : Bool) {z : Int} (hz : z = (x.v / 2 : Nat)) : bits .or .u16 z (flZ (topN x.wide : Nat) i) = ((rightS x i).v : Int) := by
  have ht := topN_le x.wide
  unfold NumS.ok at h
  rw [hz, flZ_nat, or_natZ _ _ (by omega) (fl_word _ _ (by omega))]
  show _ = ((x.v / 2 + fl (topN x.wide) i : Nat) : Int)
  cases i
  · show ((x.v / 2 ||| 0 : Nat) : Int) = _; rw [Nat.or_zero]; rfl
  · have e := Nat.two_pow_add_eq_or_of_lt (i := sizeN x.wide - 1) (b := x.v / 2) (by rw [← top_pow]; omega) 1
    rw [← top_pow, Nat.mul_one] at e
    show ((x.v / 2 ||| topN x.wide : Nat) : Int) = ((x.v / 2 + topN x.wide : Nat) : Int)
    rw [Nat.or_comm, ← e, Nat.add_comm]
theorem up_num {x : NumS} (h : x.ok) : (bits .and .u16 (x.v : Int) (topN x.wide : Nat) != 0) = upS x := and_top x.wide x.v h
theorem lo_num {x : NumS} (h : x.ok) : (bits .and .u16 (x.v : Int) 1 != 0) = loS x := by
  have ht := topN_le x.wide
  unfold NumS.ok at h
  rw [and_one (by omega)]
  unfold loS
  rcases (by omega : x.v % 2 = 0 ∨ x.v % 2 = 1) with e | e <;> rw [e] <;> rfl
theorem c_num {was : Nat} (h : was ≤ 65535) : (bits .and .u16 (was : Int) 1 != 0) = (was % 2 == 1) := by
  rw [and_one h]
  rcases (by omega : was % 2 = 0 ∨ was % 2 = 1) with e | e <;> rw [e] <;> rfl
end Go.Proofs.Ytcplcjfkehogkaa
