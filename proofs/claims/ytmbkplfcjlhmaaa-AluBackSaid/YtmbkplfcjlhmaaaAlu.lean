
/- Contracts of package alu's own functions: each returns what plain arithmetic gives and leaves the world as it was. No statement of the seat is proved here. -/
import Derived.Test.YtmbkplfcjlhmaaaAluO
namespace Go.Proofs.Ytmbkplfcjlhmaaa
open Go.ChangeShapes Go.WideShapes Go.ChangeAt Go.RowKit
set_option linter.unusedVariables false
set_option linter.unusedSimpArgs false

theorem ret_int2 {k l : IntKind} {a b c d : Int} (h : a = b) (h' : c = d) : Ending.returned (.tuple #[.int k a, .int l c]) = .returned (.tuple #[.int k b, .int l d]) := by rw [h, h']
theorem nat_word {x : Nat} (h : x ≤ 65535) : (0 : Int) ≤ x ∧ (x : Int) ≤ 65535 := by omega
theorem even_cut (v : Nat) (w : World) : Calls Try.prog 22 #[.int .u8 ((v : Int) % 256)] w fun e w' => e = .returned (.bool (ev v)) ∧ w = w' :=
  (even_any _ w (by omega) (by omega)).mono fun e w' ⟨h', hb⟩ => ⟨by rw [h', ev], hb⟩
set_option maxHeartbeats 400000 in
theorem cut_any (x : Nat) (wide : Bool) (w : World) (h : x ≤ 65535) :
    Calls Try.prog 15 #[.int .u16 x, .bool wide] w fun e w' => e = .returned (.int .u16 (cutN wide x : Nat)) ∧ w = w' := by
  cases wide
  · go_enter Try.func15, Try.ntmps15
    go_wp2_with (first
    | (go_at_call 23; refine (low_any _ _ (by omega) (by omega)).mono ?_; rintro e w' ⟨rfl, rfl⟩))
    go_ret
    exact ⟨ret_int (by simp [cutN]), rfl⟩
  · go_enter Try.func15, Try.ntmps15
    go_wp2
    go_ret
    exact ⟨rfl, rfl⟩
set_option maxHeartbeats 400000 in
theorem sign_any (wide : Bool) (w : World) :
    Calls Try.prog 21 #[.bool wide] w fun e w' => e = .returned (.int .u16 (topN wide : Nat)) ∧ w = w' := by
  cases wide
  · go_enter Try.func21, Try.ntmps21
    go_wp2
    go_ret
    exact ⟨rfl, rfl⟩
  · go_enter Try.func21, Try.ntmps21
    go_wp2
    go_ret
    exact ⟨rfl, rfl⟩
def flZ (k : Int) (on : Bool) : Int := bif on then k else 0
theorem flZ_nat (k : Nat) (on : Bool) : flZ (k : Int) on = (fl k on : Nat) := by cases on <;> rfl
set_option maxHeartbeats 400000 in
theorem set_any (k : Int) (on : Bool) (w : World) :
    Calls Try.prog 20 #[.int .u16 k, .bool on] w fun e w' => e = .returned (.int .u16 (flZ k on)) ∧ w = w' := by
  cases on
  · go_enter Try.func20, Try.ntmps20
    go_wp2
    go_ret
    exact ⟨rfl, rfl⟩
  · go_enter Try.func20, Try.ntmps20
    go_wp2
    go_ret
    exact ⟨rfl, rfl⟩
theorem flZ_1 (on : Bool) : flZ 1 on = (fl 1 on : Nat) := flZ_nat 1 on
theorem flZ_4 (on : Bool) : flZ 4 on = (fl 4 on : Nat) := flZ_nat 4 on
theorem flZ_16 (on : Bool) : flZ 16 on = (fl 16 on : Nat) := flZ_nat 16 on
theorem flZ_64 (on : Bool) : flZ 64 on = (fl 64 on : Nat) := flZ_nat 64 on
theorem flZ_128 (on : Bool) : flZ 128 on = (fl 128 on : Nat) := flZ_nat 128 on
theorem flZ_2048 (on : Bool) : flZ 2048 on = (fl 2048 on : Nat) := flZ_nat 2048 on
theorem eq_zero (x : Nat) : ((x : Int) == 0) = (x == 0) := by
  rw [Bool.eq_iff_iff]; simp only [beq_iff_eq]; omega
theorem ne_zero (x i : Nat) : (((x &&& 2 ^ i : Nat) : Int) != 0) = onB x i := by
  rw [bne, eq_zero, Bool.beq_eq_decide_eq, and_on, Bool.not_not]
theorem and_top (wide : Bool) (v : Nat) (h : v < 2 * topN wide) : (bits .and .u16 (v : Int) (topN wide : Nat) != 0) = decide (topN wide ≤ v) := by
  have := topN_le wide
  rw [u16_and_nat _ _ (by omega) (by omega), ← top_on wide v h]
  conv => lhs; rw [top_pow wide]
  exact ne_zero _ _
theorem and_bit (x i : Nat) (h : x ≤ 65535) (hi : i < 16) (p : Int) (hp : p = (2 ^ i : Nat)) : (bits .and .u16 (x : Int) p != 0) = onB x i := by
  have : 2 ^ i < 2 ^ 16 := Nat.pow_lt_pow_right (by decide) hi
  subst hp
  rw [u16_and_nat _ _ (by omega) (by omega)]
  exact ne_zero _ _
theorem and_bit32 (x i : Nat) (h : x ≤ 4294967295) (hi : i < 32) (p : Int) (hp : p = (2 ^ i : Nat)) : (bits .and .u32 (x : Int) p != 0) = onB x i := by
  have : 2 ^ i < 2 ^ 32 := Nat.pow_lt_pow_right (by decide) hi
  subst hp
  rw [u32_and_nat _ _ (by omega) (by omega)]
  exact ne_zero _ _
theorem or_natZ (x y : Nat) (hx : x ≤ 65535) (hy : y ≤ 65535) : bits .or .u16 (x : Int) (y : Int) = (x ||| y : Nat) := u16_or_nat x y (by omega) (by omega)
theorem fl_word (k : Nat) (on : Bool) (h : k ≤ 65535) : fl k on ≤ 65535 := Nat.le_trans (fl_le k on) h
theorem or_le {x y : Nat} (hx : x ≤ 65535) (hy : y ≤ 65535) : x ||| y ≤ 65535 := by
  have := Nat.or_lt_two_pow (n := 16) (x := x) (y := y) (by omega) (by omega); omega
theorem or_signsZ (s z p : Bool) : bits .or .u16 (bits .or .u16 (fl 128 s : Nat) (fl 64 z : Nat)) (fl 4 p : Nat) = (flagsN false p false z s false : Nat) := by
  rw [or_natZ _ _ (fl_word _ _ (by decide)) (fl_word _ _ (by decide)), or_natZ _ _ (or_le (fl_word _ _ (by decide)) (fl_word _ _ (by decide))) (fl_word _ _ (by decide)), or_signs]
theorem or_flagsZ (c p a z s o : Bool) : bits .or .u16 (bits .or .u16 (bits .or .u16 (fl 1 c : Nat) (fl 16 a : Nat)) (fl 2048 o : Nat)) (flagsN false p false z s false : Nat) = (flagsN c p a z s o : Nat) := by
  have h1 := fl_word 1 c (by decide)
  have h2 := fl_word 16 a (by decide)
  have h3 := fl_word 2048 o (by decide)
  have h4 := flagsN_le false p false z s false
  rw [or_natZ _ _ h1 h2, or_natZ _ _ (or_le h1 h2) h3, or_natZ _ _ (or_le (or_le h1 h2) h3) (by omega), or_flags]
theorem wrap_word (t : Nat) : IntKind.u16.wrap (t : Int) = (t % 65536 : Nat) := by rw [IntKind.wrap_u16]; rfl
theorem xor_word (x y : Nat) (hx : x ≤ 65535) (hy : y ≤ 65535) : bits .xor .u16 (x : Int) (y : Int) = (x ^^^ y : Nat) := u16_xor_nat x y (by omega) (by omega)
theorem and_word (x y : Nat) (hx : x ≤ 65535) (hy : y ≤ 65535) : bits .and .u16 (x : Int) (y : Int) = (x &&& y : Nat) := u16_and_nat x y (by omega) (by omega)
theorem xor_le {x y : Nat} (hx : x ≤ 65535) (hy : y ≤ 65535) : x ^^^ y ≤ 65535 := by
  have := Nat.xor_lt_two_pow (n := 16) (x := x) (y := y) (by omega) (by omega); omega
theorem and_le {x y : Nat} (hy : y ≤ 65535) : x &&& y ≤ 65535 := by
  have := Nat.and_lt_two_pow (n := 16) x (y := y) (by omega); omega
/-- The flags that a total tells. -/
def toldF (wide : Bool) (a b t wr : Nat) : Nat := sumF wide (cutN wide (t % 65536)) (onB t (sizeN wide)) ((onB a 4 ^^ onB b 4) ^^ onB (t % 65536) 4) (onB wr (sizeN wide - 1))
set_option maxHeartbeats 400000 in
theorem signs_any (x : Nat) (wide : Bool) (w : World) (h : x ≤ 65535) :
    Calls Try.prog 9 #[.int .u16 x, .bool wide] w fun e w' => e = .returned (.int .u16 (signsN wide x : Nat)) ∧ w = w' := by
  have hc := cutN_le (wide := wide) h
  have hl := cutN_lt (wide := wide) h
  unfold signsN
  generalize hv : cutN wide x = v at *
  have ht := topN_le wide
  go_enter Try.func9, Try.ntmps9
  go_wp2_with (first
    | (go_at_call 15; refine (cut_any _ _ _ (by omega)).mono ?_; rintro e w' ⟨rfl, rfl⟩; rw [hv])
    | (go_at_call 21; refine (sign_any _ _).mono ?_; rintro e w' ⟨rfl, rfl⟩)
    | (go_at_call 20; refine (set_any _ _ _).mono ?_; rintro e w' ⟨rfl, rfl⟩)
    | (go_at_call 23; refine (low_any _ _ (by omega) (by omega)).mono ?_; rintro e w' ⟨rfl, rfl⟩)
    | (go_at_call 22; refine (even_cut _ _).mono ?_; rintro e w' ⟨rfl, rfl⟩))
  go_ret
  refine ⟨ret_int ?_, rfl⟩
  rw [and_top wide v hl, eq_zero, flZ_128, flZ_64, flZ_4]
  exact or_signsZ _ _ _
set_option maxHeartbeats 1000000 in
theorem told_any (a b t wr : Nat) (xt xw : Int) (wide : Bool) (w : World) (ha : a ≤ 65535) (hb : b ≤ 65535) (ht : t ≤ 4294967295) (hwr : wr ≤ 65535) (hxt : xt = t) (hx : xw = wr) :
    Calls Try.prog 29 #[.int .u16 a, .int .u16 b, .int .u32 xt, .int .u16 xw, .bool wide] w fun e w' => e = .returned (.tuple #[.int .u16 (cutN wide (t % 65536) : Nat), .int .u16 (toldF wide a b t wr : Nat)]) ∧ w = w' := by
  subst hx hxt
  have hv : t % 65536 ≤ 65535 := by omega
  have htop := topN_le wide
  go_enter Try.func29, Try.ntmps29
  go_wp2_with (first
    | (go_at_call 15; refine (cut_any (t % 65536) _ _ (by omega)).mono ?_; rintro e w' ⟨rfl, rfl⟩)
    | (go_at_call 21; refine (sign_any _ _).mono ?_; rintro e w' ⟨rfl, rfl⟩)
    | (go_at_call 20; refine (set_any _ _ _).mono ?_; rintro e w' ⟨rfl, rfl⟩)
    | (go_at_call 9; refine (signs_any (t % 65536) _ _ (by omega)).mono ?_; rintro e w' ⟨rfl, rfl⟩))
  go_ret2
  refine ⟨ret_int2 rfl ?_, rfl⟩
  rw [wrap_word, xor_word _ _ (by omega) (by omega), xor_word _ _ (xor_le (by omega) (by omega)) hv]
  rw [and_bit32 t (sizeN wide) ht (by cases wide <;> decide) _ (by rw [← top_two]; omega)]
  rw [and_bit _ 4 (xor_le (xor_le ha hb) hv) (by decide) 16 rfl]
  rw [and_bit wr (sizeN wide - 1) hwr (by cases wide <;> decide) _ (by rw [← top_pow])]
  rw [on_xor, on_xor, flZ_1, flZ_16, flZ_2048]
  exact or_flagsZ _ _ _ _ _ _
theorem toldF_sum {wide : Bool} {a b c : Nat} (ha : a < 2 * topN wide) (hb : b < 2 * topN wide) (hc : c ≤ 1) : toldF wide a b (a + b + c) ((a ^^^ ((a + b + c) % 65536)) &&& (b ^^^ ((a + b + c) % 65536))) = addF wide a b c := by
  obtain ⟨h1, h2, h3, h4⟩ := tot_sum ha hb hc
  unfold toldF addF
  rw [on_and, on_xor, on_xor, h1, h2, h3, h4]
theorem toldF_diff {wide : Bool} {a b c : Nat} (ha : a < 2 * topN wide) (hb : b < 2 * topN wide) (hc : c ≤ 1) : toldF wide a b (totD a b c) ((a ^^^ b) &&& (a ^^^ (totD a b c % 65536))) = subF wide a b c := by
  obtain ⟨h1, h2, h3, h4⟩ := tot_diff ha hb hc
  unfold toldF subF
  rw [on_and, on_xor, on_xor, h1, h2, h3, h4]
theorem wrong_add {z : Int} {t x y : Nat} (hz : z = t) (hx : x ≤ 65535) (hy : y ≤ 65535) : bits .and .u16 (bits .xor .u16 (x : Int) (IntKind.u16.wrap z)) (bits .xor .u16 (y : Int) (IntKind.u16.wrap z)) = ((x ^^^ t % 65536) &&& (y ^^^ t % 65536) : Nat) := by
  have ht : t % 65536 ≤ 65535 := by omega
  rw [hz, wrap_word, xor_word _ _ hx ht, xor_word _ _ hy ht, and_word _ _ (xor_le hx ht) (xor_le hy ht)]
theorem wrong_sub {z : Int} {t x y : Nat} (hz : z = t) (hx : x ≤ 65535) (hy : y ≤ 65535) : bits .and .u16 (bits .xor .u16 (x : Int) (y : Int)) (bits .xor .u16 (x : Int) (IntKind.u16.wrap z)) = ((x ^^^ y) &&& (x ^^^ t % 65536) : Nat) := by
  have ht : t % 65536 ≤ 65535 := by omega
  rw [hz, wrap_word, xor_word _ _ hx ht, xor_word _ _ hx hy, and_word _ _ (xor_le hx hy) (xor_le hx ht)]
set_option maxHeartbeats 1000000 in
theorem add_any (a b : Nat) (carry wide : Bool) (w : World) (ha : a ≤ 65535) (hb : b ≤ 65535) :
    Calls Try.prog 16 #[.int .u16 a, .int .u16 b, .bool carry, .bool wide] w fun e w' => e = .returned (.tuple #[.int .u16 (addV wide (cutN wide a) (cutN wide b) (fl 1 carry) : Nat), .int .u16 (addF wide (cutN wide a) (cutN wide b) (fl 1 carry) : Nat)]) ∧ w = w' := by
  have ca := cutN_le (wide := wide) ha
  have cb := cutN_le (wide := wide) hb
  have la := cutN_lt (wide := wide) ha
  have lb := cutN_lt (wide := wide) hb
  have hc := fl_le 1 carry
  have H := toldF_sum la lb hc
  have HV := (tot_sum la lb hc).1
  rw [← H, ← HV]
  clear H HV
  generalize hx : cutN wide a = x at *
  generalize hy : cutN wide b = y at *
  have hc0 : fl 1 false = 0 := rfl
  have hc1 : fl 1 true = 1 := rfl
  cases carry
  · go_enter Try.func16, Try.ntmps16
    go_wp2_with (first
    | (go_at_call 15; refine (cut_any _ _ _ (by omega)).mono ?_; rintro e w' ⟨rfl, rfl⟩; first | rw [hx] | rw [hy])
    | (go_at_call 29; refine (told_any x y (x + y + fl 1 false) ((x ^^^ (x + y + fl 1 false) % 65536) &&& (y ^^^ (x + y + fl 1 false) % 65536)) _ _ _ _ ca cb (by omega) (and_le (xor_le cb (by omega))) (by omega) (wrong_add (by omega) ca cb)).mono ?_; rintro e w' ⟨rfl, rfl⟩))
    go_ret2
    exact ⟨rfl, rfl⟩
  · go_enter Try.func16, Try.ntmps16
    go_wp2_with (first
    | (go_at_call 15; refine (cut_any _ _ _ (by omega)).mono ?_; rintro e w' ⟨rfl, rfl⟩; first | rw [hx] | rw [hy])
    | (go_at_call 29; refine (told_any x y (x + y + fl 1 true) ((x ^^^ (x + y + fl 1 true) % 65536) &&& (y ^^^ (x + y + fl 1 true) % 65536)) _ _ _ _ ca cb (by omega) (and_le (xor_le cb (by omega))) (by omega) (wrong_add (by omega) ca cb)).mono ?_; rintro e w' ⟨rfl, rfl⟩))
    go_ret2
    exact ⟨rfl, rfl⟩
theorem diff_0 {x y : Nat} (hx : x ≤ 65535) (hy : y ≤ 65535) : IntKind.u32.wrap ((x : Int) - y) = (totD x y (fl 1 false) : Nat) := by
  rw [IntKind.wrap_u32', show fl 1 false = 0 from rfl]; unfold totD; omega
theorem diff_1 {x y : Nat} (hx : x ≤ 65535) (hy : y ≤ 65535) : ((x : Int) - y - 1) % 4294967296 = (totD x y (fl 1 true) : Nat) := by
  rw [show fl 1 true = 1 from rfl]; unfold totD; omega
theorem totD_le (a b c : Nat) : totD a b c ≤ 4294967295 := by unfold totD; omega
set_option maxHeartbeats 1000000 in
theorem subtract_any (a b : Nat) (carry wide : Bool) (w : World) (ha : a ≤ 65535) (hb : b ≤ 65535) :
    Calls Try.prog 17 #[.int .u16 a, .int .u16 b, .bool carry, .bool wide] w fun e w' => e = .returned (.tuple #[.int .u16 (subV wide (cutN wide a) (cutN wide b) (fl 1 carry) : Nat), .int .u16 (subF wide (cutN wide a) (cutN wide b) (fl 1 carry) : Nat)]) ∧ w = w' := by
  have ca := cutN_le (wide := wide) ha
  have cb := cutN_le (wide := wide) hb
  have la := cutN_lt (wide := wide) ha
  have lb := cutN_lt (wide := wide) hb
  have hc := fl_le 1 carry
  have H := toldF_diff la lb hc
  have HV := (tot_diff la lb hc).1
  rw [← H, ← HV]
  clear H HV
  generalize hx : cutN wide a = x at *
  generalize hy : cutN wide b = y at *
  cases carry
  · go_enter Try.func17, Try.ntmps17
    go_wp2_with (first
    | (go_at_call 15; refine (cut_any _ _ _ (by omega)).mono ?_; rintro e w' ⟨rfl, rfl⟩; first | rw [hx] | rw [hy])
    | (go_at_call 29; refine (told_any x y (totD x y (fl 1 false)) ((x ^^^ y) &&& (x ^^^ totD x y (fl 1 false) % 65536)) _ _ _ _ ca cb (totD_le _ _ _) (and_le (xor_le ca (by omega))) (diff_0 ca cb) (wrong_sub (diff_0 ca cb) ca cb)).mono ?_; rintro e w' ⟨rfl, rfl⟩))
    go_ret2
    exact ⟨rfl, rfl⟩
  · go_enter Try.func17, Try.ntmps17
    go_wp2_with (first
    | (go_at_call 15; refine (cut_any _ _ _ (by omega)).mono ?_; rintro e w' ⟨rfl, rfl⟩; first | rw [hx] | rw [hy])
    | (go_at_call 29; refine (told_any x y (totD x y (fl 1 true)) ((x ^^^ y) &&& (x ^^^ totD x y (fl 1 true) % 65536)) _ _ _ _ ca cb (totD_le _ _ _) (and_le (xor_le ca (by omega))) (diff_1 ca cb) (wrong_sub (diff_1 ca cb) ca cb)).mono ?_; rintro e w' ⟨rfl, rfl⟩))
    go_ret2
    exact ⟨rfl, rfl⟩
set_option maxHeartbeats 1000000 in
theorem bitwise_any (x : Nat) (z : Int) (wide : Bool) (w : World) (hx : x ≤ 65535) (hz : z = x) :
    Calls Try.prog 18 #[.int .u16 z, .bool wide] w fun e w' => e = .returned (.tuple #[.int .u16 (cutN wide x : Nat), .int .u16 (signsN wide x : Nat)]) ∧ w = w' := by
  subst hz
  go_enter Try.func18, Try.ntmps18
  go_wp2_with (first
    | (go_at_call 15; refine (cut_any _ _ _ (by omega)).mono ?_; rintro e w' ⟨rfl, rfl⟩)
    | (go_at_call 9; refine (signs_any _ _ _ (by omega)).mono ?_; rintro e w' ⟨rfl, rfl⟩))
  go_ret2
  exact ⟨rfl, rfl⟩
set_option maxHeartbeats 1000000 in
theorem keepCarry_any (x y : Nat) (w : World) :
    Calls Try.prog 28 #[.int .u16 x, .int .u16 y] w fun e w' => e = .returned (.int .u16 (bits .or .u16 (bits .andNot .u16 x 1) (bits .and .u16 y 1))) ∧ w = w' := by
  go_enter Try.func28, Try.ntmps28
  go_wp2
  go_ret
  exact ⟨rfl, rfl⟩

/-- What two numbers come to, by the name. -/
def doV (name : Int) (wide carry : Bool) (a b : Nat) : Nat :=
  if name = 1 then addV wide a b 0 else if name = 3 then addV wide a b (fl 1 carry) else if name = 6 ∨ name = 8 then subV wide a b 0 else if name = 4 then subV wide a b (fl 1 carry) else
  if name = 2 then a ||| b else if name = 5 ∨ name = 33 then a &&& b else if name = 7 then a ^^^ b else 0
def doF (name : Int) (wide carry : Bool) (a b : Nat) : Nat :=
  if name = 1 then addF wide a b 0 else if name = 3 then addF wide a b (fl 1 carry) else if name = 6 ∨ name = 8 then subF wide a b 0 else if name = 4 then subF wide a b (fl 1 carry) else
  if name = 2 then signsN wide (a ||| b) else if name = 5 ∨ name = 33 then signsN wide (a &&& b) else if name = 7 then signsN wide (a ^^^ b) else 0
def doB (name : Int) : Bool := decide (name = 1 ∨ name = 3 ∨ name = 6 ∨ name = 8 ∨ name = 4 ∨ name = 2 ∨ name = 5 ∨ name = 33 ∨ name = 7)
theorem do_ways (name : Int) : name = 1 ∨ name = 3 ∨ name = 6 ∨ name = 8 ∨ name = 4 ∨ name = 2 ∨ name = 5 ∨ name = 33 ∨ name = 7 ∨ (name ≠ 1 ∧ name ≠ 3 ∧ name ≠ 6 ∧ name ≠ 8 ∧ name ≠ 4 ∧ name ≠ 2 ∧ name ≠ 5 ∧ name ≠ 33 ∧ name ≠ 7) := by omega
theorem ret_do {a b c d : Nat} {p q : Bool} (h : a = b) (h' : c = d) (h2 : p = q) : Ending.returned (.tuple #[.int .u16 (a : Int), .int .u16 (c : Int), .bool p]) = .returned (.tuple #[.int .u16 (b : Int), .int .u16 (d : Int), .bool q]) := by rw [h, h', h2]
set_option maxHeartbeats 4000000 in
theorem do_any (name : Int) (a b : Nat) (carry wide : Bool) (w : World) (ha : a ≤ 65535) (hb : b ≤ 65535) :
    Calls Try.prog 6 #[.int .i64 name, .int .u16 a, .int .u16 b, .bool carry, .bool wide] w fun e w' => e = .returned (.tuple #[.int .u16 (doV name wide carry (cutN wide a) (cutN wide b) : Nat), .int .u16 (doF name wide carry (cutN wide a) (cutN wide b) : Nat), .bool (doB name)]) ∧ w = w' := by
  rcases do_ways name with rfl | rfl | rfl | rfl | rfl | rfl | rfl | rfl | rfl | ⟨h1, h2, h3, h4, h5, h6, h7, h8, h9⟩
  · go_enter Try.func6, Try.ntmps6
    go_wp2_with (first
    | (go_at_call 16; refine (add_any _ _ _ _ _ ha hb).mono ?_; rintro e w' ⟨rfl, rfl⟩))
    go_ret3
    exact ⟨rfl, rfl⟩
  · go_enter Try.func6, Try.ntmps6
    go_wp2_with (first
    | (go_at_call 16; refine (add_any _ _ _ _ _ ha hb).mono ?_; rintro e w' ⟨rfl, rfl⟩))
    go_ret3
    exact ⟨rfl, rfl⟩
  · go_enter Try.func6, Try.ntmps6
    go_wp2_with (first
    | (go_at_call 17; refine (subtract_any _ _ _ _ _ ha hb).mono ?_; rintro e w' ⟨rfl, rfl⟩))
    go_ret3
    exact ⟨rfl, rfl⟩
  · go_enter Try.func6, Try.ntmps6
    go_wp2_with (first
    | (go_at_call 17; refine (subtract_any _ _ _ _ _ ha hb).mono ?_; rintro e w' ⟨rfl, rfl⟩))
    go_ret3
    exact ⟨rfl, rfl⟩
  · go_enter Try.func6, Try.ntmps6
    go_wp2_with (first
    | (go_at_call 17; refine (subtract_any _ _ _ _ _ ha hb).mono ?_; rintro e w' ⟨rfl, rfl⟩))
    go_ret3
    exact ⟨rfl, rfl⟩
  · go_enter Try.func6, Try.ntmps6
    go_wp2_with (first
    | (go_at_call 18; refine (bitwise_any (a ||| b) _ _ _ (or_le ha hb) (or_natZ a b ha hb)).mono ?_; rintro e w' ⟨rfl, rfl⟩))
    go_ret3
    exact ⟨ret_do (cut_or wide a b) ((signs_cut wide _).symm.trans (congrArg (signsN wide) (cut_or wide a b))) rfl, rfl⟩
  · go_enter Try.func6, Try.ntmps6
    go_wp2_with (first
    | (go_at_call 18; refine (bitwise_any (a &&& b) _ _ _ (and_le hb) (and_word a b ha hb)).mono ?_; rintro e w' ⟨rfl, rfl⟩))
    go_ret3
    exact ⟨ret_do (cut_and wide a b) ((signs_cut wide _).symm.trans (congrArg (signsN wide) (cut_and wide a b))) rfl, rfl⟩
  · go_enter Try.func6, Try.ntmps6
    go_wp2_with (first
    | (go_at_call 18; refine (bitwise_any (a &&& b) _ _ _ (and_le hb) (and_word a b ha hb)).mono ?_; rintro e w' ⟨rfl, rfl⟩))
    go_ret3
    exact ⟨ret_do (cut_and wide a b) ((signs_cut wide _).symm.trans (congrArg (signsN wide) (cut_and wide a b))) rfl, rfl⟩
  · go_enter Try.func6, Try.ntmps6
    go_wp2_with (first
    | (go_at_call 18; refine (bitwise_any (a ^^^ b) _ _ _ (xor_le ha hb) (xor_word a b ha hb)).mono ?_; rintro e w' ⟨rfl, rfl⟩))
    go_ret3
    exact ⟨ret_do (cut_xor wide a b) ((signs_cut wide _).symm.trans (congrArg (signsN wide) (cut_xor wide a b))) rfl, rfl⟩
  · rw [show doB name = false by simp [doB, *], show doV name wide carry (cutN wide a) (cutN wide b) = 0 by simp [doV, *], show doF name wide carry (cutN wide a) (cutN wide b) = 0 by simp [doF, *]]
    go_enter Try.func6, Try.ntmps6
    go_wp2
    go_ret3
    exact ⟨rfl, rfl⟩

/-- What one number comes to, by the name. -/
def oneV (name : Int) (wide : Bool) (a : Nat) : Nat :=
  if name = 15 then addV wide a (cutN wide 1) 0 else if name = 16 then subV wide a (cutN wide 1) 0 else if name = 84 then cutN wide (65535 - a) else if name = 85 then subV wide (cutN wide 0) a 0 else 0
def keepZ (f was : Nat) : Int := bits .or .u16 (bits .andNot .u16 f 1) (bits .and .u16 was 1)
def oneF (name : Int) (wide : Bool) (a was : Nat) : Int :=
  if name = 15 then keepZ (addF wide a (cutN wide 1) 0) was else if name = 16 then keepZ (subF wide a (cutN wide 1) 0) was else if name = 84 then bits .and .u16 was 2261 else if name = 85 then subF wide (cutN wide 0) a 0 else 0
def oneB (name : Int) : Bool := decide (name = 15 ∨ name = 16 ∨ name = 84 ∨ name = 85)
theorem one_ways (name : Int) : name = 15 ∨ name = 16 ∨ name = 84 ∨ name = 85 ∨ (name ≠ 15 ∧ name ≠ 16 ∧ name ≠ 84 ∧ name ≠ 85) := by omega
theorem not_nat (x : Nat) (h : x ≤ 65535) : 65535 ^^^ x = 65535 - x := by
  apply Nat.eq_of_testBit_eq
  intro i
  have h1 : (65535 - x).testBit i = (decide (i < 16) && !x.testBit i) := by
    rw [show 65535 - x = 2 ^ 16 - (x + 1) by omega]; exact Nat.testBit_two_pow_sub_succ (by omega) i
  have h2 : (65535 : Nat).testBit i = decide (i < 16) := Nat.testBit_two_pow_sub_one 16 i
  rw [Nat.testBit_xor, h1, h2]
  by_cases hi : i < 16
  · simp [hi]
  · have : x.testBit i = false := Nat.testBit_lt_two_pow (Nat.lt_of_lt_of_le (Nat.lt_succ_of_le h) (show 2 ^ 16 ≤ 2 ^ i from Nat.pow_le_pow_right (by decide) (by omega)))
    simp [hi, this]
theorem not_word (x : Nat) (h : x ≤ 65535) : bits .xor .u16 IntKind.u16.max (x : Int) = (65535 - x : Nat) := by
  rw [show IntKind.u16.max = ((65535 : Nat) : Int) from rfl, xor_word _ _ (by omega) h, not_nat x h]
theorem cut_not (x : Nat) (wide : Bool) (w : World) (h : x ≤ 65535) :
    Calls Try.prog 15 #[.int .u16 (bits .xor .u16 IntKind.u16.max (x : Int)), .bool wide] w fun e w' => e = .returned (.int .u16 (cutN wide (65535 - x) : Nat)) ∧ w = w' := by
  rw [not_word x h]; exact cut_any _ _ _ (by omega)
theorem not_cut (wide : Bool) (x : Nat) (h : x ≤ 65535) : cutN wide (65535 - x) = cutN wide (65535 - cutN wide x) := by
  cases wide
  · rw [cutN_f, cutN_f, cutN_f]; omega
  · rfl
theorem ret_oneN {a b : Nat} {z : Int} {p : Bool} (h : a = b) : Ending.returned (.tuple #[.int .u16 (a : Int), .int .u16 z, .bool p]) = .returned (.tuple #[.int .u16 (b : Int), .int .u16 z, .bool p]) := by rw [h]
set_option maxHeartbeats 4000000 in
theorem one_any (name : Int) (a was : Nat) (wide : Bool) (w : World) (ha : a ≤ 65535) (hw : was ≤ 65535) :
    Calls Try.prog 14 #[.int .i64 name, .int .u16 a, .int .u16 was, .bool wide] w fun e w' => e = .returned (.tuple #[.int .u16 (oneV name wide (cutN wide a) : Nat), .int .u16 (oneF name wide (cutN wide a) was), .bool (oneB name)]) ∧ w = w' := by
  rcases one_ways name with rfl | rfl | rfl | rfl | ⟨h1, h2, h3, h4⟩
  · go_enter Try.func14, Try.ntmps14
    go_wp2_with (first
    | (go_at_call 16; refine (add_any a 1 _ _ _ ha (by decide)).mono ?_; rintro e w' ⟨rfl, rfl⟩)
    | (go_at_call 28; refine (keepCarry_any _ _ _).mono ?_; rintro e w' ⟨rfl, rfl⟩))
    go_ret3
    exact ⟨rfl, rfl⟩
  · go_enter Try.func14, Try.ntmps14
    go_wp2_with (first
    | (go_at_call 17; refine (subtract_any a 1 _ _ _ ha (by decide)).mono ?_; rintro e w' ⟨rfl, rfl⟩)
    | (go_at_call 28; refine (keepCarry_any _ _ _).mono ?_; rintro e w' ⟨rfl, rfl⟩))
    go_ret3
    exact ⟨rfl, rfl⟩
  · go_enter Try.func14, Try.ntmps14
    go_wp2_with (first
    | (go_at_call 15; refine (cut_not _ _ _ ha).mono ?_; rintro e w' ⟨rfl, rfl⟩))
    go_ret3
    exact ⟨ret_oneN (not_cut wide a ha), rfl⟩
  · go_enter Try.func14, Try.ntmps14
    go_wp2_with (first
    | (go_at_call 17; refine (subtract_any 0 a _ _ _ (by decide) ha).mono ?_; rintro e w' ⟨rfl, rfl⟩))
    go_ret3
    exact ⟨rfl, rfl⟩
  · rw [show oneB name = false by simp [oneB, *], show oneV name wide (cutN wide a) = 0 by simp [oneV, *], show oneF name wide (cutN wide a) was = 0 by simp [oneF, *]]
    go_enter Try.func14, Try.ntmps14
    go_wp2
    go_ret3
    exact ⟨rfl, rfl⟩
end Go.Proofs.Ytmbkplfcjlhmaaa
