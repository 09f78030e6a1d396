/- Contracts of bits.isStep, bits.Up and of its twin hansomref01.Up: the least multiple of a step that is not below a number, 'upZ'. -/
import Derived.Test.YtibpgcnccehnjaaHex
namespace Go.Proofs.Ytibpgcnccehnjaa
open Go.ChangeShapes Go.WideShapes Go.ChangeAt Go.RowKit

/-- Is a number one of the first k powers of 2? -/
def powB : Nat → Int → Bool
  | 0, _ => false
  | k + 1, s => powB k s || (s == ((2 ^ k : Nat) : Int))
def stepB (s : Int) : Bool := powB 13 s

def stepB' (s : Int) : Bool := s == 1 || s == 2 || s == 4 || s == 8 || s == 16 || s == 32 || s == 64 || s == 128 || s == 256 || s == 512 || s == 1024 || s == 2048 || s == 4096 || s == 8192 && false
theorem stepB_eq (s : Int) : stepB' s = stepB s := by simp [stepB', stepB, powB]

theorem powB_le (k : Nat) (s : Int) (h : powB k s = true) : 1 ≤ s ∧ s ≤ ((2 ^ k : Nat) : Int) ∧ ∃ j : Nat, j < k ∧ s = ((2 ^ j : Nat) : Int) := by
  induction k with
  | zero => simp [powB] at h
  | succ k ih =>
    simp only [powB, Bool.or_eq_true, beq_iff_eq] at h
    have h2 : 2 ^ (k + 1) = 2 * 2 ^ k := by rw [Nat.pow_succ, Nat.mul_comm]
    have h1 : 1 ≤ 2 ^ k := Nat.one_le_two_pow
    rcases h with h | h
    · obtain ⟨a, b, j, hj, e⟩ := ih h
      exact ⟨a, by omega, j, by omega, e⟩
    · exact ⟨by omega, by omega, k, by omega, h⟩

theorem stepB_le (s : Int) (h : stepB s = true) : 1 ≤ s ∧ s ≤ 4096 := by
  obtain ⟨a, b, j, hj, e⟩ := powB_le 13 s h
  have : 2 ^ j ≤ 2 ^ 12 := Nat.pow_le_pow_right (by omega) (by omega)
  exact ⟨a, by omega⟩

theorem step_fin : ∀ a : Fin 65, ∀ b : Fin 64, 1 ≤ a.val * 64 + b.val → (bits .and .i64 ((a.val * 64 + b.val : Nat) : Int) (((a.val * 64 + b.val : Nat) : Int) - 1) == 0) = stepB' ((a.val * 64 + b.val : Nat) : Int) := by decide +kernel
theorem step_and (s : Int) (h0 : 1 ≤ s) (h1 : s ≤ 4096) : (bits .and .i64 s (s - 1) == 0) = stepB s := by
  obtain ⟨n, rfl⟩ := Int.eq_ofNat_of_zero_le (show 0 ≤ s by omega)
  have h := step_fin ⟨n / 64, by omega⟩ ⟨n % 64, by omega⟩
  simp only [show n / 64 * 64 + n % 64 = n by omega] at h
  rw [h (by omega), stepB_eq]

set_option maxHeartbeats 400000 in
theorem isStep_any (s : Int) (w : World) (h0 : -9223372036854775808 ≤ s) (h1 : s ≤ 9223372036854775807) :
    Calls Try.prog 24 #[.int .i64 s] w fun e w' => e = .returned (.bool (stepB s)) ∧ w = w' := by
  by_cases ha : 1 ≤ s
  · by_cases hb : s ≤ 4096
    · have HE := Lib.hid (step_and s ha hb)
      go_enter Try.func24, Try.ntmps24
      go_wp2
      go_ret
      exact ⟨ret_bool HE.out, rfl⟩
    · have HE := Lib.hid (show stepB s = false by
        cases h : stepB s
        · rfl
        · exact absurd (stepB_le s h).2 hb)
      go_enter Try.func24, Try.ntmps24
      go_wp2
      go_ret
      exact ⟨ret_bool HE.out.symm, rfl⟩
  · have HE := Lib.hid (show stepB s = false by
        cases h : stepB s
        · rfl
        · exact absurd (stepB_le s h).1 ha)
    go_enter Try.func24, Try.ntmps24
    go_wp2
    go_ret
    exact ⟨ret_bool HE.out.symm, rfl⟩

/-- A number from 0 to 2^24: what is beyond counts as the nearest. -/
def clampZ (n : Int) : Int := if n < 0 then 0 else if n > 16777216 then 16777216 else n
/-- The least multiple of the step that is not below the number. -/
def upZ (n s : Int) : Int := if stepB s then (clampZ n + s - 1) / s * s else clampZ n

theorem clampZ_bd (n : Int) : 0 ≤ clampZ n ∧ clampZ n ≤ 16777216 := by unfold clampZ; split <;> (try split) <;> omega

theorem i64_andNot_pow (i j : Nat) (hj : j ≤ 30) (h : i < 4611686018427387904) : bits .andNot .i64 (i : Int) (((2 ^ j - 1 : Nat) : Nat) : Int) = ((i / 2 ^ j * 2 ^ j : Nat) : Int) := by
  have hp : 2 ^ j ≤ 2 ^ 30 := Nat.pow_le_pow_right (by omega) hj
  have hp0 : 1 ≤ 2 ^ j := Nat.one_le_two_pow
  show IntKind.i64.wrap ((BitVec.ofInt 64 (i : Int) &&& ~~~BitVec.ofInt 64 ((2 ^ j - 1 : Nat) : Int)).toNat : Int) = _
  rw [BitVec.toNat_and, BitVec.toNat_not, ofInt_u64 i (by omega), ofInt_u64 _ (by omega)]
  have e : 2 ^ 64 - 1 - (2 ^ j - 1) = 2 ^ 64 - 2 ^ j := by omega
  rw [e, nat_midmask 64 j i (by omega), Nat.mod_eq_of_lt (by omega)]
  have h1 : i / 2 ^ j * 2 ^ j ≤ i := Nat.div_mul_le_self _ _
  exact IntWalk.i64_in _ (by omega)

theorem up_bits (x s : Int) (hs : stepB s = true) (h0 : 0 ≤ x) (h1 : x ≤ 16777216) : bits .andNot .i64 (x + s - 1) (s - 1) = (x + s - 1) / s * s := by
  obtain ⟨_, _, j, hj, rfl⟩ := powB_le 13 s hs
  have hp : 2 ^ j ≤ 2 ^ 12 := Nat.pow_le_pow_right (by omega) (by omega)
  have hp0 : 1 ≤ 2 ^ j := Nat.one_le_two_pow
  obtain ⟨n, rfl⟩ := Int.eq_ofNat_of_zero_le h0
  rw [show (n : Int) + ((2 ^ j : Nat) : Int) - 1 = ((n + 2 ^ j - 1 : Nat) : Int) by omega, show ((2 ^ j : Nat) : Int) - 1 = ((2 ^ j - 1 : Nat) : Int) by omega,
    i64_andNot_pow _ _ (by omega) (by omega)]
  simp only [Int.natCast_mul, Int.natCast_ediv]

set_option maxHeartbeats 400000 in
theorem up_any (n s : Int) (w : World) (h0 : -9223372036854775808 ≤ n) (h1 : n ≤ 9223372036854775807) (h2 : -9223372036854775808 ≤ s) (h3 : s ≤ 9223372036854775807) :
    Calls Try.prog 21 #[.int .i64 n, .int .i64 s] w fun e w' => e = .returned (.int .i64 (upZ n s)) ∧ w = w' := by
  have hc := clampZ_bd n
  obtain ⟨c, hc'⟩ : ∃ c, clampZ n = c := ⟨_, rfl⟩
  have HU : Hid (upZ n s = if stepB s then (c + s - 1) / s * s else c) := by unfold Hid upZ; rw [hc']
  rw [hc'] at hc
  have HC := Lib.hid hc'
  clear hc'
  go_enter Try.func21, Try.ntmps21
  go_upto_region 1 with fail
  go_cut [0] (fun v wx => v = .int .i64 c ∧ wx = w)
  case first =>
    have hx := HC.out
    unfold clampZ at hx
    by_cases ha : n < 0
    · rw [if_pos ha] at hx
      obtain rfl : c = 0 := hx.symm
      clear hx
      go_wp2
      go_meet
      exact ⟨rfl, rfl⟩
    · by_cases hb : n > 16777216
      · rw [if_neg ha, if_pos hb] at hx
        obtain rfl : c = 16777216 := hx.symm
        clear hx
        go_wp2
        go_meet
        exact ⟨rfl, rfl⟩
      · rw [if_neg ha, if_neg hb] at hx
        obtain rfl : n = c := hx
        go_wp2
        go_meet
        exact ⟨rfl, rfl⟩
  case rest =>
    obtain ⟨rfl, rfl⟩ := hcut
    cases hs : stepB s
    · rw [hs] at HU
      go_wp2_with (go_at_call 24; refine (isStep_any _ _ (by omega) (by omega)).mono ?_; rintro e w' ⟨rfl, rfl⟩)
      go_ret
      exact ⟨ret_int (by rw [HU.out]; simp), rfl⟩
    · rw [hs] at HU
      have hl := stepB_le s hs
      have HB := Lib.hid (up_bits c s hs hc.1 hc.2)
      go_wp2_with (go_at_call 24; refine (isStep_any _ _ (by omega) (by omega)).mono ?_; rintro e w' ⟨rfl, rfl⟩)
      go_ret
      exact ⟨ret_int (by rw [HU.out, HB.out]; simp), rfl⟩

theorem div_mul_bd (x s : Int) (h0 : 0 ≤ x) (h : 1 ≤ s) : 0 ≤ x / s ∧ x / s ≤ x ∧ 0 ≤ x / s * s ∧ x / s * s ≤ x :=
  ⟨Int.ediv_nonneg h0 (by omega), Int.ediv_le_self _ h0, Int.mul_nonneg (Int.ediv_nonneg h0 (by omega)) (by omega), Int.ediv_mul_le _ (by omega)⟩

set_option maxHeartbeats 1000000 in
theorem upRef_any (n s : Int) (w : World) (h0 : -9223372036854775808 ≤ n) (h1 : n ≤ 9223372036854775807) (h2 : -9223372036854775808 ≤ s) (h3 : s ≤ 9223372036854775807) :
    Calls Try.prog 22 #[.int .i64 n, .int .i64 s] w fun e w' => e = .returned (.int .i64 (upZ n s)) ∧ w = w' := by
  have hc := clampZ_bd n
  obtain ⟨c, hc'⟩ : ∃ c, clampZ n = c := ⟨_, rfl⟩
  have HU : Hid (upZ n s = if stepB s then (c + s - 1) / s * s else c) := by unfold Hid upZ; rw [hc']
  rw [hc'] at hc
  have HC := Lib.hid hc'
  clear hc'
  go_enter Try.func22, Try.ntmps22
  go_wp2
  go_loop [5, 6] (fun b p => ∃ (k : Nat) (q : Int), k ≤ 13 ∧ q = ((2 ^ k : Nat) : Int) ∧ p = .int .i64 q ∧ b = .bool (powB k s)) (fun _ p => (8192 - intOf p).toNat)
  case atStart => exact ⟨0, 1, by omega, rfl, rfl, rfl⟩
  case round =>
    obtain ⟨k, q, hk, hq, rfl, rfl⟩ := hrel
    have hq0 : 1 ≤ q := by have : 1 ≤ 2 ^ k := Nat.one_le_two_pow; omega
    have hq1 : q ≤ 8192 := by have : 2 ^ k ≤ 2 ^ 13 := Nat.pow_le_pow_right (by omega) hk; omega
    have hkq : k < 13 → q ≤ 4096 := fun h => by have : 2 ^ k ≤ 2 ^ 12 := Nat.pow_le_pow_right (by omega) (by omega); omega
    have HQ := Lib.hid hq
    clear hq
    by_cases hlt : k < 13
    · have hq2 := hkq hlt
      clear hkq
      have hnext : ((2 ^ (k + 1) : Nat) : Int) = q * 2 := by rw [Nat.pow_succ, Int.natCast_mul, ← HQ.out]; rfl
      have HN := Lib.hid hnext
      clear hnext
      have HP : Hid (powB (k + 1) s = (powB k s || (s == q))) := by unfold Hid; rw [HQ.out]; rfl
      generalize powB k s = b at *
      cases b
      · go_wp2
        go_round
        case rel => exact ⟨k + 1, q * 2, by omega, HN.out.symm, rfl, by rw [HP.out]; simp⟩
        case measure => simp [intOf]; omega
      · go_wp2
        go_round
        case rel => exact ⟨k + 1, q * 2, by omega, HN.out.symm, rfl, by rw [HP.out]; simp⟩
        case measure => simp [intOf]; omega
    · obtain rfl : k = 13 := by omega
      have hq3 : q = 8192 := HQ.out
      clear HQ hkq hq0 hq1
      subst hq3
      have hx := HC.out
      unfold clampZ at hx
      cases hs : stepB s
      · have hp : powB 13 s = false := hs
        rw [hs] at HU
        clear hs
        by_cases ha : n < 0
        · rw [if_pos ha] at hx
          obtain rfl : c = 0 := hx.symm
          clear hx
          go_wp2
          go_ret
          exact ⟨ret_int (by rw [HU.out]; simp), rfl⟩
        · by_cases hb : n > 16777216
          · rw [if_neg ha, if_pos hb] at hx
            obtain rfl : c = 16777216 := hx.symm
            clear hx
            go_wp2
            go_ret
            exact ⟨ret_int (by rw [HU.out]; simp), rfl⟩
          · rw [if_neg ha, if_neg hb] at hx
            obtain rfl : n = c := hx
            go_wp2
            go_ret
            exact ⟨ret_int (by rw [HU.out]; simp; try omega), rfl⟩
      · have hp : powB 13 s = true := hs
        rw [hs] at HU
        have hl := stepB_le s hs
        clear hs
        have hd := div_mul_bd (c + s - 1) s (by omega) hl.1
        have hd0 := div_mul_bd (s - 1) s (by omega) hl.1
        by_cases ha : n < 0
        · rw [if_pos ha] at hx
          obtain rfl : c = 0 := hx.symm
          clear hx
          go_wp2
          go_ret
          exact ⟨ret_int (by rw [HU.out]; simp; try rfl), rfl⟩
        · by_cases hb : n > 16777216
          · rw [if_neg ha, if_pos hb] at hx
            obtain rfl : c = 16777216 := hx.symm
            clear hx
            go_wp2
            go_ret
            exact ⟨ret_int (by rw [HU.out]; simp; try rfl), rfl⟩
          · rw [if_neg ha, if_neg hb] at hx
            obtain rfl : n = c := hx
            go_wp2
            go_ret
            exact ⟨ret_int (by rw [HU.out]; simp; try rfl), rfl⟩

end Go.Proofs.Ytibpgcnccehnjaa
