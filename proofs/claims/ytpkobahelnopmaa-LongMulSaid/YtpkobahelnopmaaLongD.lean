






/- Contracts of package long, products and quotients: each returns what plain arithmetic gives. No statement of the seat is proved here. -/
import Derived.Test.YtpkobahelnopmaaLongP
import Derived.Test.YtpkobahelnopmaaAluC
import Derived.Test.YtpkobahelnopmaaNum
import Derived.Deep.DeepCutAuto
import Derived.Deep.CutBlock
namespace Go.Proofs.Ytpkobahelnopmaa
open Go.ChangeShapes Go.WideShapes Go.ChangeAt Go.RowKit
set_option linter.unusedVariables false
set_option linter.unusedSimpArgs false

theorem u16_bd (z : Int) : 0 ≤ IntKind.u16.wrap z ∧ IntKind.u16.wrap z ≤ 65535 := by rw [IntKind.wrap_u16]; omega
theorem cutI_any (z : Int) (wide : Bool) (w : World) (h : 0 ≤ z ∧ z ≤ 65535) :
    Calls Try.prog 21 #[.int .u16 z, .bool wide] w fun e w' => e = .returned (.int .u16 (z % oneZ wide)) ∧ w = w' := by
  obtain ⟨x, rfl⟩ := Int.eq_ofNat_of_zero_le h.1
  exact (cut_any x wide w (by omega)).mono fun e w' ⟨h1, h2⟩ => ⟨by rw [h1, cutZ wide (by omega)], h2⟩
theorem signedD_any (x : Nat) (wide : Bool) (w : World) (h : x ≤ 65535) :
    Calls Try.prog 19 #[.int .u16 x, .bool wide] w fun e w' => e = .returned (.int .i32 (wholeZ true wide x)) ∧ w = w' := by
  cases wide
  · go_enter Try.func19, Try.ntmps19
    go_wp2_with (first
    | (go_at_call 31; refine (low_any _ _ (by omega) (by omega)).mono ?_; rintro e w' ⟨rfl, rfl⟩)
    | (go_at_call 36; refine (spreadB_any _ _ (by omega) (by omega)).mono ?_; rintro e w' ⟨rfl, rfl⟩))
    go_ret
    exact ⟨ret_int (signed_f x), rfl⟩
  · go_enter Try.func19, Try.ntmps19
    go_wp2
    go_ret
    exact ⟨ret_int (signed_t x h), rfl⟩
theorem signedI_any (z : Int) (wide : Bool) (w : World) (h : 0 ≤ z ∧ z ≤ 65535) :
    Calls Try.prog 19 #[.int .u16 z, .bool wide] w fun e w' => e = .returned (.int .i32 (wholeZ true wide z.toNat)) ∧ w = w' := by
  obtain ⟨x, rfl⟩ := Int.eq_ofNat_of_zero_le h.1
  exact signedD_any x wide w (by omega)
theorem spreadD_any (z : Int) (wide : Bool) (w : World) (h : 0 ≤ z ∧ z ≤ 65535) :
    Calls Try.prog 20 #[.int .u16 z, .bool wide] w fun e w' => e = .returned (.int .u16 (spZ wide z.toNat)) ∧ w = w' := by
  obtain ⟨x, rfl⟩ := Int.eq_ofNat_of_zero_le h.1
  have hb := whole_bd true wide (x := x) (by omega)
  unfold spZ
  rw [show (x : Int).toNat = x from rfl]
  generalize hz : wholeZ true wide x = z at *
  go_enter Try.func20, Try.ntmps20
  go_wp2_with (first
    | (go_at_call 19; refine (signedD_any _ _ _ (by omega)).mono ?_; rintro e w' ⟨rfl, rfl⟩; rw [hz])
    | (go_at_call 21; refine (cutI_any _ _ _ (by first | exact u16_bd _ | omega)).mono ?_; rintro e w' ⟨rfl, rfl⟩))
  go_ret
  exact ⟨ret_int (by rw [IntKind.wrap_u16]), rfl⟩
theorem halvesD_any (m v : Int) (wide : Bool) (w : World) (hv : v = m % 4294967296) :
    Calls Try.prog 18 #[.int .u32 v, .bool wide] w fun e w' => e = .returned (.tuple #[.int .u16 (m % oneZ wide), .int .u16 (m / oneZ wide % oneZ wide)]) ∧ w = w' := by
  have h0 : 0 ≤ v ∧ v ≤ 4294967295 := by omega
  rw [← low_32, ← high_32, ← hv]
  clear hv
  cases wide
  · go_enter Try.func18, Try.ntmps18
    go_wp2_with (first
    | (go_at_call 21; refine (cutI_any _ _ _ (by first | exact u16_bd _ | omega)).mono ?_; rintro e w' ⟨rfl, rfl⟩))
    go_ret2
    exact ⟨ret_int2 (by rw [IntKind.wrap_u16]; show v % 65536 % 256 = v % 256; omega) (by rw [IntKind.wrap_u16]; show v / 256 % 65536 % 256 = v / 256 % 256; omega), rfl⟩
  · go_enter Try.func18, Try.ntmps18
    go_wp2
    go_ret2
    exact ⟨ret_int2 (by rw [IntKind.wrap_u16]; rfl) (by first | rfl | (rw [IntKind.wrap_u16]; rfl) | (show v / 65536 = v / 65536 % 65536; omega)), rfl⟩
theorem joinedD_any (x y : Nat) (wide : Bool) (w : World) (hx : x ≤ 65535) (hy : y ≤ 65535) :
    Calls Try.prog 24 #[.int .u16 x, .int .u16 y, .bool wide] w fun e w' => e = .returned (.int .u32 (divA false wide x y)) ∧ w = w' := by
  cases wide
  · go_enter Try.func24, Try.ntmps24
    go_wp2_with (first
    | (go_at_call 31; refine (low_any _ _ (by omega) (by omega)).mono ?_; rintro e w' ⟨rfl, rfl⟩)
    | (go_at_call 33; refine (word_any _ _ _ (by omega) (by omega) (by omega) (by omega)).mono ?_; rintro e w' ⟨rfl, rfl⟩))
    go_ret
    exact ⟨ret_int rfl, rfl⟩
  · go_enter Try.func24, Try.ntmps24
    go_wp2
    go_ret
    exact ⟨ret_int (or_join hx hy), rfl⟩
theorem wrapw32 (x : Int) : IntKind.u32.wrap (wrap32 x) = x % 4294967296 := by rw [wu32]; unfold wrap32; omega
theorem wrapu32 (x : Int) : IntKind.u32.wrap x = x % 4294967296 := wu32 x
theorem ret_mul {a b c d : Int} {p q : Bool} (h1 : a = b) (h2 : c = d) (h3 : p = q) : Ending.returned (.tuple #[.int .u16 a, .int .u16 c, .bool p]) = .returned (.tuple #[.int .u16 b, .int .u16 d, .bool q]) := by rw [h1, h2, h3]
theorem mulD_any (name : Int) (a b : Nat) (wide : Bool) (w : World) (ha : a ≤ 65535) (hb : b ≤ 65535) :
    Calls Try.prog 7 #[.int .i64 name, .int .u16 a, .int .u16 b, .bool wide] w fun e w' => e = .returned (.tuple #[.int .u16 (mulL (name == 87) wide a b), .int .u16 (mulH (name == 87) wide a b), .bool (mulM (name == 87) wide a b)]) ∧ Below w.heap.size w w' := by
  have ho := one_pos wide
  have ho' := one_ways wide
  by_cases h : name = 87
  · subst h
    rw [show ((87 : Int) == 87) = true from rfl]
    have hl : 0 ≤ mulL true wide a b ∧ mulL true wide a b ≤ 65535 := ⟨Int.emod_nonneg _ (by omega), by have h1 := Int.emod_lt_of_pos (mulP true wide a b) ho; unfold mulL; omega⟩
    have T := tells_sign wide ha hb (l := (mulL true wide a b).toNat) (Int.toNat_of_nonneg hl.1)
    have h1 := whole_bd true wide ha
    have h2 := whole_bd true wide hb
    have HH : ∀ w, Calls Try.prog 18 #[.int .u32 (IntKind.u32.wrap (wrap32 (mulP true wide a b))), .bool wide] w fun e w' => e = .returned (.tuple #[.int .u16 (mulL true wide a b), .int .u16 (mulH true wide a b)]) ∧ w = w' := fun w => halvesD_any (mulP true wide a b) _ wide w (wrapw32 _)
    rw [show mulP true wide a b = wholeZ true wide a * wholeZ true wide b from rfl] at HH
    rw [show mulP true wide a b / oneZ wide % oneZ wide = mulH true wide a b from rfl] at T
    generalize hza : wholeZ true wide a = za at *
    generalize hzb : wholeZ true wide b = zb at *
    generalize mulL true wide a b = l at *
    generalize mulH true wide a b = u at *
    generalize mulM true wide a b = m at *
    have TT := Lib.hid T
    have HHH := Lib.hid HH
    clear T HH ho' ho
    go_enter Try.func7, Try.ntmps7
    go_wp2_with (first
    | (go_at_call 19; refine (signedD_any _ _ _ (by omega)).mono ?_; rintro e w' ⟨rfl, rfl⟩; first | rw [hza] | rw [hzb])
    | (go_at_call 18; refine (HHH.out _).mono ?_; rintro e w' ⟨rfl, rfl⟩)
    | (go_at_call 20; refine (spreadD_any _ _ _ (by omega)).mono ?_; rintro e w' ⟨rfl, rfl⟩))
    go_ret3
    exact ⟨ret_mul rfl rfl TT.out, Below.refl _ _⟩
  · rw [show (name == 87) = false from beq_eq_false_iff_ne.2 h]
    have T := tells_plain wide ha hb
    have h1 := cutN_le (wide := wide) ha
    have h2 := cutN_le (wide := wide) hb
    have hp := prod_plain wide ha hb
    have HH : ∀ w, Calls Try.prog 18 #[.int .u32 (mulP false wide a b % 4294967296), .bool wide] w fun e w' => e = .returned (.tuple #[.int .u16 (mulL false wide a b), .int .u16 (mulH false wide a b)]) ∧ w = w' := fun w => halvesD_any (mulP false wide a b) _ wide w rfl
    rw [show mulP false wide a b = (cutN wide a : Int) * (cutN wide b : Int) from rfl] at HH
    rw [show mulP false wide a b / oneZ wide % oneZ wide = mulH false wide a b from rfl] at T
    generalize hza : cutN wide a = za at *
    generalize hzb : cutN wide b = zb at *
    generalize mulL false wide a b = l at *
    generalize mulH false wide a b = u at *
    generalize mulM false wide a b = m at *
    have TT := Lib.hid T
    have HHH := Lib.hid HH
    clear T HH hp ho ho'
    go_enter Try.func7, Try.ntmps7
    go_wp2_with (first
    | (go_at_call 21; refine (cut_any _ _ _ (by omega)).mono ?_; rintro e w' ⟨rfl, rfl⟩; first | rw [hza] | rw [hzb])
    | (go_at_call 18; refine (HHH.out _).mono ?_; rintro e w' ⟨rfl, rfl⟩))
    go_ret3
    exact ⟨ret_mul rfl rfl TT.out, Below.refl _ _⟩
end Go.Proofs.Ytpkobahelnopmaa
