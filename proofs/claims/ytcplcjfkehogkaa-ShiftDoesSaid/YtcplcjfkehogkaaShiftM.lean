/- What is turned left and right again, turned by all of its bits, and one step as a sum or a half: plain arithmetic over 'stepsN'. No statement of the seat is proved here. -/
import Derived.Test.YtcplcjfkehogkaaShiftR
namespace Go.Proofs.Ytcplcjfkehogkaa
open Go
set_option linter.unusedVariables false
set_option linter.unusedSimpArgs false

/-- One step of a number alone. -/
def rolV (wide : Bool) (v : Nat) : Nat := v * 2 % (2 * topN wide) + v / topN wide
def rorV (wide : Bool) (v : Nat) : Nat := v / 2 + v % 2 * topN wide
def againN (f : Nat → Nat) : Nat → Nat → Nat
  | 0, v => v
  | k + 1, v => f (againN f k v)
theorem again_front (f : Nat → Nat) (k v : Nat) : againN f (k + 1) v = againN f k (f v) := by
  induction k with
  | zero => rfl
  | succ k ih => show f (againN f (k + 1) v) = f (againN f k (f v)); rw [ih]
theorem again_add (f : Nat → Nat) (j k v : Nat) : againN f (j + k) v = againN f j (againN f k v) := by
  induction j with
  | zero => rw [Nat.zero_add]; rfl
  | succ j ih => rw [Nat.succ_add]; show f (againN f (j + k) v) = f (againN f j (againN f k v)); rw [ih]
theorem steps_rol (wide : Bool) (k : Nat) (s : Nat × Nat) : (stepsN 63 wide k s).1 = againN (rolV wide) k s.1 := by
  induction k with
  | zero => rfl
  | succ k ih => show (stepN 63 wide (stepsN 63 wide k s)).1 = rolV wide (againN (rolV wide) k s.1); rw [← ih]; rfl
theorem steps_ror (wide : Bool) (k : Nat) (s : Nat × Nat) : (stepsN 64 wide k s).1 = againN (rorV wide) k s.1 := by
  induction k with
  | zero => rfl
  | succ k ih => show (stepN 64 wide (stepsN 64 wide k s)).1 = rorV wide (againN (rorV wide) k s.1); rw [← ih]; rfl
theorem ror_rol {wide : Bool} {v : Nat} (h : v < 2 * topN wide) : rorV wide (rolV wide v) = v := by
  rcases (by omega : v < topN wide ∨ topN wide ≤ v) with hv | hv
  · have e1 : v * 2 % (2 * topN wide) = v * 2 := Nat.mod_eq_of_lt (by omega)
    have e2 : v / topN wide = 0 := Nat.div_eq_of_lt hv
    unfold rorV rolV
    rw [e1, e2]; simp
  · have e1 : v * 2 % (2 * topN wide) = v * 2 - 2 * topN wide := by
      rw [Nat.mod_eq_sub_mod (by omega), Nat.mod_eq_of_lt (by omega)]
    have e2 : v / topN wide = 1 := by
      rw [show v = (v - topN wide) + topN wide * 1 by omega, Nat.add_mul_div_left _ _ (topN_pos wide), Nat.div_eq_of_lt (by omega)]
    unfold rorV rolV
    rw [e1, e2]
    rw [show v * 2 - 2 * topN wide + 1 = 1 + 2 * (v - topN wide) by omega, Nat.add_mul_div_left _ _ (by decide), Nat.add_mul_mod_self_left]
    omega
theorem rol_lt {wide : Bool} {v : Nat} (h : v < 2 * topN wide) : rolV wide v < 2 * topN wide := by
  cases wide <;> simp only [rolV, topN, cond_true, cond_false] at * <;> omega
theorem again_lt {wide : Bool} {v : Nat} (h : v < 2 * topN wide) (k : Nat) : againN (rolV wide) k v < 2 * topN wide := by
  induction k with
  | zero => exact h
  | succ k ih => exact rol_lt ih
theorem again_back {wide : Bool} {v : Nat} (h : v < 2 * topN wide) (k : Nat) : againN (rorV wide) k (againN (rolV wide) k v) = v := by
  induction k with
  | zero => rfl
  | succ k ih =>
    rw [again_front]
    show againN (rorV wide) k (rorV wide (rolV wide (againN (rolV wide) k v))) = v
    rw [ror_rol (again_lt h k), ih]
/-- Left, and right again. -/
theorem turn_back (wide : Bool) {x : Nat} (hx : x ≤ 65535) (n a b : Nat) : shV 64 wide (shV 63 wide x n a) n b = cutN wide x := by
  have hl := cutN_lt (wide := wide) hx
  unfold shV
  rw [steps_ror, steps_rol]
  show againN (rorV wide) n (cutN wide (againN (rolV wide) n (cutN wide x))) = cutN wide x
  rw [cutN_id (again_lt hl n), again_back hl]
/-! ### Turned by some bits at once -/
def rotF (P Q v : Nat) : Nat := v * P % (P * Q) + v / Q
theorem rotF_eq {P Q q r : Nat} (hr : r < Q) (hq : q < P) : rotF P Q (q * Q + r) = r * P + q := by
  have h1 : (q * Q + r) * P = r * P + (P * Q) * q := by rw [Nat.add_mul, Nat.mul_right_comm, Nat.mul_comm q P, Nat.mul_right_comm P q Q]; omega
  have h2 : r * P < P * Q := by rw [Nat.mul_comm P Q]; exact Nat.mul_lt_mul_of_pos_right hr (by omega)
  unfold rotF
  rw [h1, Nat.add_mul_mod_self_left, Nat.mod_eq_of_lt h2, Nat.add_comm (q * Q) r, Nat.add_mul_div_right _ _ (by omega), Nat.div_eq_of_lt hr, Nat.zero_add]
theorem rot_comp {A B C v : Nat} (h : v < A * B * C) : rotF B (C * A) (rotF A (B * C) v) = rotF (A * B) C v := by
  have hC : 0 < C := by
    rcases Nat.eq_zero_or_pos C with e | e
    · subst e; simp at h
    · exact e
  have hB : 0 < B := by
    rcases Nat.eq_zero_or_pos B with e | e
    · subst e; simp at h
    · exact e
  have hc : v % C < C := Nat.mod_lt _ hC
  have hb : v / C % B < B := Nat.mod_lt _ hB
  have ha : v / C / B < A := by
    rw [Nat.div_lt_iff_lt_mul hB, Nat.div_lt_iff_lt_mul hC]; exact h
  have hv : v = (v / C / B * B + v / C % B) * C + v % C := by
    rw [Nat.mul_comm (v / C / B) B, Nat.div_add_mod, Nat.mul_comm, Nat.div_add_mod]
  generalize v / C / B = a at *
  generalize v / C % B = b at *
  generalize v % C = c at *
  subst hv
  have hbc : b * C + c < B * C := by
    have := Nat.mul_le_mul_right C (Nat.succ_le_of_lt hb)
    rw [Nat.succ_mul] at this
    omega
  have hca : c * A + a < C * A := by
    have := Nat.mul_le_mul_right A (Nat.succ_le_of_lt hc)
    rw [Nat.succ_mul] at this
    omega
  have hab : a * B + b < A * B := by
    have := Nat.mul_le_mul_right B (Nat.succ_le_of_lt ha)
    rw [Nat.succ_mul] at this
    omega
  rw [rotF_eq hc hab, show (a * B + b) * C + c = a * (B * C) + (b * C + c) by rw [Nat.add_mul, Nat.mul_assoc]; omega, rotF_eq hbc ha,
    show (b * C + c) * A + a = b * (C * A) + (c * A + a) by rw [Nat.add_mul, Nat.mul_assoc]; omega, rotF_eq hca hb]
  rw [Nat.add_mul, Nat.mul_assoc]; omega
theorem rotF_one {P v : Nat} : rotF P 1 v = v := by unfold rotF; rw [Nat.mul_one, Nat.mul_mod_left, Nat.div_one, Nat.zero_add]
theorem rotF_lt {P Q v : Nat} (h : v < P * Q) : rotF P Q v < P * Q := by
  have hQ : 0 < Q := by
    rcases Nat.eq_zero_or_pos Q with e | e
    · subst e; simp at h
    · exact e
  have hr : v % Q < Q := Nat.mod_lt _ hQ
  have hq : v / Q < P := by rw [Nat.div_lt_iff_lt_mul hQ]; exact h
  have hv : v = v / Q * Q + v % Q := by rw [Nat.mul_comm, Nat.div_add_mod]
  generalize v / Q = q at *
  generalize v % Q = r at *
  subst hv
  rw [rotF_eq hr hq]
  have := Nat.mul_le_mul_right P (Nat.succ_le_of_lt hr)
  rw [Nat.succ_mul, Nat.mul_comm Q P] at this
  omega
/-- Twice as often. -/
theorem rot_double {f : Nat → Nat} {S j k A B C : Nat} (hS : A * B * C = S) (h1 : ∀ v, v < S → againN f j v = rotF A (B * C) v) (h2 : ∀ v, v < S → againN f k v = rotF B (C * A) v) : ∀ v, v < S → againN f (k + j) v = rotF (A * B) C v := by
  intro v h
  have hlt : rotF A (B * C) v < S := by
    have := rotF_lt (P := A) (Q := B * C) (v := v) (by rw [← Nat.mul_assoc, hS]; exact h)
    rwa [← Nat.mul_assoc, hS] at this
  rw [again_add, h1 v h, h2 _ hlt, rot_comp (by rw [hS]; exact h)]
theorem rol_8 {v : Nat} (h : v < 256) : againN (rolV false) 8 v = v := by
  have h1 : ∀ v, v < 256 → againN (rolV false) 1 v = rotF 2 128 v := fun v _ => rfl
  have h2 := rot_double (f := rolV false) (A := 2) (B := 2) (C := 64) rfl h1 h1
  have h4 := rot_double (f := rolV false) (A := 4) (B := 4) (C := 16) rfl h2 h2
  have h8 := rot_double (f := rolV false) (A := 16) (B := 16) (C := 1) rfl h4 h4
  exact (h8 v h).trans rotF_one
theorem rol_16 {v : Nat} (h : v < 65536) : againN (rolV true) 16 v = v := by
  have h1 : ∀ v, v < 65536 → againN (rolV true) 1 v = rotF 2 32768 v := fun v _ => rfl
  have h2 := rot_double (f := rolV true) (A := 2) (B := 2) (C := 16384) rfl h1 h1
  have h4 := rot_double (f := rolV true) (A := 4) (B := 4) (C := 4096) rfl h2 h2
  have h8 := rot_double (f := rolV true) (A := 16) (B := 16) (C := 256) rfl h4 h4
  have h16 := rot_double (f := rolV true) (A := 256) (B := 256) (C := 1) rfl h8 h8
  exact (h16 v h).trans rotF_one
theorem turn_all (wide : Bool) {x : Nat} (hx : x ≤ 65535) (a : Nat) : shV 63 wide x (sizeN wide) a = cutN wide x := by
  have hl := cutN_lt (wide := wide) hx
  unfold shV
  rw [steps_rol]
  cases wide
  · exact rol_8 hl
  · exact rol_16 hl
/-- Through C: a number of one bit more. -/
def wideN (wide : Bool) (s : Nat × Nat) : Nat := s.1 + s.2 * (2 * topN wide)
def rclV (wide : Bool) (u : Nat) : Nat := u * 2 % (4 * topN wide) + u / (2 * topN wide)
theorem step_rcl {wide : Bool} {s : Nat × Nat} (h : s.1 < 2 * topN wide) (hc : s.2 ≤ 1) : wideN wide (stepN 65 wide s) = rclV wide (wideN wide s) := by
  obtain ⟨v, c⟩ := s
  show v * 2 % (2 * topN wide) + c + v / topN wide * (2 * topN wide) = rclV wide (v + c * (2 * topN wide))
  change v < 2 * topN wide at h
  change c ≤ 1 at hc
  rcases (by omega : c = 0 ∨ c = 1) with rfl | rfl <;> cases wide <;> simp only [rclV, topN, cond_true, cond_false] at * <;> omega
theorem steps_rcl {wide : Bool} {s : Nat × Nat} (h : s.1 < 2 * topN wide) (hc : s.2 ≤ 1) (k : Nat) : wideN wide (stepsN 65 wide k s) = againN (rclV wide) k (wideN wide s) := by
  induction k with
  | zero => rfl
  | succ k ih =>
    have hok := stepsN_ok (name := 65) k h hc
    show wideN wide (stepN 65 wide (stepsN 65 wide k s)) = rclV wide (againN (rclV wide) k (wideN wide s))
    rw [step_rcl hok.1 hok.2, ih]
theorem rcl_9 {u : Nat} (h : u < 512) : againN (rclV false) 9 u = u := by
  have h1 : ∀ v, v < 512 → againN (rclV false) 1 v = rotF 2 256 v := fun v _ => rfl
  have h2 := rot_double (f := rclV false) (A := 2) (B := 2) (C := 128) rfl h1 h1
  have h4 := rot_double (f := rclV false) (A := 4) (B := 4) (C := 32) rfl h2 h2
  have h8 := rot_double (f := rclV false) (A := 16) (B := 16) (C := 2) rfl h4 h4
  have h9 := rot_double (f := rclV false) (A := 256) (B := 2) (C := 1) rfl h8 h1
  exact (h9 u h).trans rotF_one
theorem rcl_17 {u : Nat} (h : u < 131072) : againN (rclV true) 17 u = u := by
  have h1 : ∀ v, v < 131072 → againN (rclV true) 1 v = rotF 2 65536 v := fun v _ => rfl
  have h2 := rot_double (f := rclV true) (A := 2) (B := 2) (C := 32768) rfl h1 h1
  have h4 := rot_double (f := rclV true) (A := 4) (B := 4) (C := 8192) rfl h2 h2
  have h8 := rot_double (f := rclV true) (A := 16) (B := 16) (C := 512) rfl h4 h4
  have h16 := rot_double (f := rclV true) (A := 256) (B := 256) (C := 2) rfl h8 h8
  have h17 := rot_double (f := rclV true) (A := 65536) (B := 2) (C := 1) rfl h16 h1
  exact (h17 u h).trans rotF_one
/-- Through C by all of its bits, and C. -/
theorem turn_carry (wide : Bool) {x : Nat} (hx : x ≤ 65535) : stepsN 65 wide (sizeN wide + 1) (startN wide x 1) = (cutN wide x, 1) := by
  have hl : (startN wide x 1).1 < 2 * topN wide := cutN_lt hx
  have hc : (startN wide x 1).2 ≤ 1 := by show 1 % 2 ≤ 1; omega
  have h := steps_rcl hl hc (sizeN wide + 1)
  have hok := stepsN_ok (name := 65) (sizeN wide + 1) hl hc
  have hu : wideN wide (startN wide x 1) < 4 * topN wide := by
    show cutN wide x + 1 % 2 * (2 * topN wide) < 4 * topN wide
    have : cutN wide x < 2 * topN wide := hl
    omega
  have e : againN (rclV wide) (sizeN wide + 1) (wideN wide (startN wide x 1)) = wideN wide (startN wide x 1) := by
    cases wide
    · exact rcl_9 hu
    · exact rcl_17 hu
  rw [e] at h
  have h' : (stepsN 65 wide (sizeN wide + 1) (startN wide x 1)).1 + (stepsN 65 wide (sizeN wide + 1) (startN wide x 1)).2 * (2 * topN wide) = cutN wide x + 1 % 2 * (2 * topN wide) := h
  have hx' : cutN wide x < 2 * topN wide := hl
  clear h e hu
  generalize stepsN 65 wide (sizeN wide + 1) (startN wide x 1) = pq at *
  obtain ⟨p, q⟩ := pq
  obtain ⟨h1, h2⟩ := hok
  simp only at h1 h2 h'
  rcases (by omega : q = 0 ∨ q = 1) with rfl | rfl
  · exfalso; omega
  · rw [show p = cutN wide x by omega]
/-- One step left is a sum, one right a half. -/
theorem one_left (wide : Bool) {x : Nat} (hx : x ≤ 65535) (a : Nat) : shV 67 wide x 1 a = addV wide (cutN wide x) (cutN wide x) 0 := by
  show cutN wide x * 2 % (2 * topN wide) + 0 = (cutN wide x + cutN wide x + 0) % (2 * topN wide)
  rw [Nat.mul_two, Nat.add_zero, Nat.add_zero]
theorem one_right (wide : Bool) (x a : Nat) : shV 68 wide x 1 a = cutN wide x / 2 := by
  show cutN wide x / 2 + 0 * topN wide = cutN wide x / 2
  omega
theorem one_out (wide : Bool) {v : Nat} (h : v < 2 * topN wide) : carN v v 0 (sizeN wide) = v / topN wide ∧ carN v v 0 (sizeN wide - 1) = addV wide v v 0 / topN wide := by
  unfold carN addV
  rw [← top_two, ← top_pow, Nat.mod_eq_of_lt h]
  cases wide <;> simp only [topN, cond_true, cond_false] at * <;> omega
/-! ### Flags -/
theorem anot_none : ∀ p z s : Bool, bits .andNot .u16 (flagsN false p false z s false : Nat) 2049 = (flagsN false p false z s false : Nat) := by decide +kernel
theorem or_carry : ∀ p a z s o : Bool, bits .or .u16 (flagsN false p a z s o : Nat) 1 = (flagsN true p a z s o : Nat) := by decide +kernel
theorem or_wrong : ∀ c p a z s : Bool, bits .or .u16 (flagsN c p a z s false : Nat) 2048 = (flagsN c p a z s true : Nat) := by decide +kernel
theorem anot_half : ∀ c p a z s o : Bool, bits .andNot .u16 (flagsN c p a z s o : Nat) 16 = (flagsN c p false z s o : Nat) := by decide +kernel
theorem turn_flag (wide : Bool) {x : Nat} (hx : x ≤ 65535) : shF 65 wide x (sizeN wide + 1) 1 = 1 ∨ shF 65 wide x (sizeN wide + 1) 1 = 2049 := by
  have e : shF 65 wide x (sizeN wide + 1) 1 = shO (shC (bits .andNot .u16 (bits .and .u16 1 2261) 2049) 1) (signAt 65 wide (sizeN wide + 1) (startN wide x 1)) (cutN wide x / topN wide) := by
    unfold shF
    rw [if_neg (by omega), turn_carry wide hx]
    rfl
  rw [e, show shC (bits .andNot .u16 (bits .and .u16 1 2261) 2049) 1 = 1 by decide +kernel]
  unfold shO
  split
  · exact .inl rfl
  · exact .inr (by decide +kernel)
theorem one_flags (wide : Bool) {x : Nat} (hx : x ≤ 65535) : shF 67 wide x 1 0 = bits .andNot .u16 (addF wide (cutN wide x) (cutN wide x) 0 : Nat) 16 := by
  have hl := cutN_lt (wide := wide) hx
  obtain ⟨c1, c2⟩ := one_out wide hl
  have ha := addV_lt wide (cutN wide x) (cutN wide x) 0
  have h1 := hi_le hl
  have h2 := hi_le ha
  have e : shF 67 wide x 1 0 = shO (shC (bits .andNot .u16 (signsN wide (addV wide (cutN wide x) (cutN wide x) 0) : Nat) 2049) (cutN wide x / topN wide)) (cutN wide x / topN wide) (addV wide (cutN wide x) (cutN wide x) 0 / topN wide) := by
    have hv := one_left wide hx 0
    unfold shV at hv
    unfold shF
    rw [if_neg (by decide), ← hv]
    rfl
  rw [e]
  unfold addF sumF
  rw [anot_half, c1, c2]
  unfold signsN sumF
  rw [cutN_id ha, anot_none]
  generalize cutN wide x / topN wide = c at *
  generalize addV wide (cutN wide x) (cutN wide x) 0 / topN wide = d at *
  unfold shO shC
  rcases (by omega : c = 0 ∨ c = 1) with rfl | rfl <;> rcases (by omega : d = 0 ∨ d = 1) with rfl | rfl
  · rfl
  · exact or_wrong _ _ _ _ _
  · show bits .or .u16 (bits .or .u16 _ 1) 2048 = _
    rw [or_carry]; exact or_wrong _ _ _ _ _
  · show bits .or .u16 _ 1 = _
    exact or_carry _ _ _ _ _
end Go.Proofs.Ytcplcjfkehogkaa
