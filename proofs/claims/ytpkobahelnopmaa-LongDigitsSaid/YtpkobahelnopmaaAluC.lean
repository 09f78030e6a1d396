
/- Contracts of alu.Cut, sign, set and Signs: each returns what plain arithmetic gives and leaves the world as it was. No statement of the seat is proved here. -/
import Derived.Test.YtpkobahelnopmaaAluO
namespace Go.Proofs.Ytpkobahelnopmaa
open Go.ChangeShapes Go.WideShapes Go.ChangeAt Go.RowKit
set_option linter.unusedVariables false
set_option linter.unusedSimpArgs false

theorem nat_word {x : Nat} (h : x ≤ 65535) : (0 : Int) ≤ x ∧ (x : Int) ≤ 65535 := by omega
theorem even_cut (v : Nat) (w : World) : Calls Try.prog 41 #[.int .u8 ((v : Int) % 256)] w fun e w' => e = .returned (.bool (ev v)) ∧ w = w' :=
  (even_any _ w (by omega) (by omega)).mono fun e w' ⟨h', hb⟩ => ⟨by rw [h', ev], hb⟩
set_option maxHeartbeats 400000 in
theorem cut_any (x : Nat) (wide : Bool) (w : World) (h : x ≤ 65535) :
    Calls Try.prog 21 #[.int .u16 x, .bool wide] w fun e w' => e = .returned (.int .u16 (cutN wide x : Nat)) ∧ w = w' := by
  cases wide
  · go_enter Try.func21, Try.ntmps21
    go_wp2_with (first
    | (go_at_call 31; refine (low_any _ _ (by omega) (by omega)).mono ?_; rintro e w' ⟨rfl, rfl⟩))
    go_ret
    exact ⟨ret_int (by simp [cutN]), rfl⟩
  · go_enter Try.func21, Try.ntmps21
    go_wp2
    go_ret
    exact ⟨rfl, rfl⟩
set_option maxHeartbeats 400000 in
theorem sign_any (wide : Bool) (w : World) :
    Calls Try.prog 40 #[.bool wide] w fun e w' => e = .returned (.int .u16 (topN wide : Nat)) ∧ w = w' := by
  cases wide
  · go_enter Try.func40, Try.ntmps40
    go_wp2
    go_ret
    exact ⟨rfl, rfl⟩
  · go_enter Try.func40, Try.ntmps40
    go_wp2
    go_ret
    exact ⟨rfl, rfl⟩
def flZ (k : Int) (on : Bool) : Int := bif on then k else 0
theorem flZ_nat (k : Nat) (on : Bool) : flZ (k : Int) on = (fl k on : Nat) := by cases on <;> rfl
set_option maxHeartbeats 400000 in
theorem set_any (k : Int) (on : Bool) (w : World) :
    Calls Try.prog 39 #[.int .u16 k, .bool on] w fun e w' => e = .returned (.int .u16 (flZ k on)) ∧ w = w' := by
  cases on
  · go_enter Try.func39, Try.ntmps39
    go_wp2
    go_ret
    exact ⟨rfl, rfl⟩
  · go_enter Try.func39, Try.ntmps39
    go_wp2
    go_ret
    exact ⟨rfl, rfl⟩
theorem flZ_1 (on : Bool) : flZ 1 on = (fl 1 on : Nat) := flZ_nat 1 on
theorem flZ_4 (on : Bool) : flZ 4 on = (fl 4 on : Nat) := flZ_nat 4 on
theorem flZ_16 (on : Bool) : flZ 16 on = (fl 16 on : Nat) := flZ_nat 16 on
theorem flZ_64 (on : Bool) : flZ 64 on = (fl 64 on : Nat) := flZ_nat 64 on
theorem flZ_128 (on : Bool) : flZ 128 on = (fl 128 on : Nat) := flZ_nat 128 on
theorem flZ_2048 (on : Bool) : flZ 2048 on = (fl 2048 on : Nat) := flZ_nat 2048 on
theorem eq_zero (x : Nat) : ((x : Int) == 0) = (x == 0) := by
  rw [Bool.eq_iff_iff]; simp only [beq_iff_eq]; omega
theorem ne_zero (x i : Nat) : (((x &&& 2 ^ i : Nat) : Int) != 0) = onB x i := by
  rw [bne, eq_zero, Bool.beq_eq_decide_eq, and_on, Bool.not_not]
theorem and_top (wide : Bool) (v : Nat) (h : v < 2 * topN wide) : (bits .and .u16 (v : Int) (topN wide : Nat) != 0) = decide (topN wide ≤ v) := by
  have := topN_le wide
  rw [u16_and_nat _ _ (by omega) (by omega), ← top_on wide v h]
  conv => lhs; rw [top_pow wide]
  exact ne_zero _ _
theorem and_bit (x i : Nat) (h : x ≤ 65535) (hi : i < 16) (p : Int) (hp : p = (2 ^ i : Nat)) : (bits .and .u16 (x : Int) p != 0) = onB x i := by
  have : 2 ^ i < 2 ^ 16 := Nat.pow_lt_pow_right (by decide) hi
  subst hp
  rw [u16_and_nat _ _ (by omega) (by omega)]
  exact ne_zero _ _
theorem and_bit32 (x i : Nat) (h : x ≤ 4294967295) (hi : i < 32) (p : Int) (hp : p = (2 ^ i : Nat)) : (bits .and .u32 (x : Int) p != 0) = onB x i := by
  have : 2 ^ i < 2 ^ 32 := Nat.pow_lt_pow_right (by decide) hi
  subst hp
  rw [u32_and_nat _ _ (by omega) (by omega)]
  exact ne_zero _ _
theorem or_natZ (x y : Nat) (hx : x ≤ 65535) (hy : y ≤ 65535) : bits .or .u16 (x : Int) (y : Int) = (x ||| y : Nat) := u16_or_nat x y (by omega) (by omega)
theorem fl_word (k : Nat) (on : Bool) (h : k ≤ 65535) : fl k on ≤ 65535 := Nat.le_trans (fl_le k on) h
theorem or_le {x y : Nat} (hx : x ≤ 65535) (hy : y ≤ 65535) : x ||| y ≤ 65535 := by
  have := Nat.or_lt_two_pow (n := 16) (x := x) (y := y) (by omega) (by omega); omega
theorem or_signsZ (s z p : Bool) : bits .or .u16 (bits .or .u16 (fl 128 s : Nat) (fl 64 z : Nat)) (fl 4 p : Nat) = (flagsN false p false z s false : Nat) := by
  rw [or_natZ _ _ (fl_word _ _ (by decide)) (fl_word _ _ (by decide)), or_natZ _ _ (or_le (fl_word _ _ (by decide)) (fl_word _ _ (by decide))) (fl_word _ _ (by decide)), or_signs]
theorem or_flagsZ (c p a z s o : Bool) : bits .or .u16 (bits .or .u16 (bits .or .u16 (fl 1 c : Nat) (fl 16 a : Nat)) (fl 2048 o : Nat)) (flagsN false p false z s false : Nat) = (flagsN c p a z s o : Nat) := by
  have h1 := fl_word 1 c (by decide)
  have h2 := fl_word 16 a (by decide)
  have h3 := fl_word 2048 o (by decide)
  have h4 := flagsN_le false p false z s false
  rw [or_natZ _ _ h1 h2, or_natZ _ _ (or_le h1 h2) h3, or_natZ _ _ (or_le (or_le h1 h2) h3) (by omega), or_flags]
theorem wrap_word (t : Nat) : IntKind.u16.wrap (t : Int) = (t % 65536 : Nat) := by rw [IntKind.wrap_u16]; rfl
theorem xor_word (x y : Nat) (hx : x ≤ 65535) (hy : y ≤ 65535) : bits .xor .u16 (x : Int) (y : Int) = (x ^^^ y : Nat) := u16_xor_nat x y (by omega) (by omega)
theorem and_word (x y : Nat) (hx : x ≤ 65535) (hy : y ≤ 65535) : bits .and .u16 (x : Int) (y : Int) = (x &&& y : Nat) := u16_and_nat x y (by omega) (by omega)
theorem xor_le {x y : Nat} (hx : x ≤ 65535) (hy : y ≤ 65535) : x ^^^ y ≤ 65535 := by
  have := Nat.xor_lt_two_pow (n := 16) (x := x) (y := y) (by omega) (by omega); omega
theorem and_le {x y : Nat} (hy : y ≤ 65535) : x &&& y ≤ 65535 := by
  have := Nat.and_lt_two_pow (n := 16) x (y := y) (by omega); omega
/-- The flags that a total tells. -/
def toldF (wide : Bool) (a b t wr : Nat) : Nat := sumF wide (cutN wide (t % 65536)) (onB t (sizeN wide)) ((onB a 4 ^^ onB b 4) ^^ onB (t % 65536) 4) (onB wr (sizeN wide - 1))
set_option maxHeartbeats 400000 in
theorem signs_any (x : Nat) (wide : Bool) (w : World) (h : x ≤ 65535) :
    Calls Try.prog 38 #[.int .u16 x, .bool wide] w fun e w' => e = .returned (.int .u16 (signsN wide x : Nat)) ∧ w = w' := by
  have hc := cutN_le (wide := wide) h
  have hl := cutN_lt (wide := wide) h
  unfold signsN
  generalize hv : cutN wide x = v at *
  have ht := topN_le wide
  go_enter Try.func38, Try.ntmps38
  go_wp2_with (first
    | (go_at_call 21; refine (cut_any _ _ _ (by omega)).mono ?_; rintro e w' ⟨rfl, rfl⟩; rw [hv])
    | (go_at_call 40; refine (sign_any _ _).mono ?_; rintro e w' ⟨rfl, rfl⟩)
    | (go_at_call 39; refine (set_any _ _ _).mono ?_; rintro e w' ⟨rfl, rfl⟩)
    | (go_at_call 31; refine (low_any _ _ (by omega) (by omega)).mono ?_; rintro e w' ⟨rfl, rfl⟩)
    | (go_at_call 41; refine (even_cut _ _).mono ?_; rintro e w' ⟨rfl, rfl⟩))
  go_ret
  refine ⟨ret_int ?_, rfl⟩
  rw [and_top wide v hl, eq_zero, flZ_128, flZ_64, flZ_4]
  exact or_signsZ _ _ _
end Go.Proofs.Ytpkobahelnopmaa
