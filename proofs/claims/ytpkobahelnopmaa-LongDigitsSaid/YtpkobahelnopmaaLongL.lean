




/- 'whole' and 'awake' of hansomlaw10. Over LongF, which has the contracts of package long ('mulD_any', 'divD_any', 'decD_any', 'adjD_m', 'adjD_d', 'adjD_not'). No statement of the seat is proved here. -/
import Derived.Test.YtpkobahelnopmaaLongF
import Derived.Test.YtpkobahelnopmaaAluR
import Derived.Test.YtpkobahelnopmaaNum
import Derived.Test.YtpkobahelnopmaaSame
import Derived.Deep.DeepCutAuto
import Derived.Deep.CutBlock
namespace Go.Proofs.Ytpkobahelnopmaa
open Go.ChangeShapes Go.WideShapes Go.ChangeAt Go.RowKit
set_option linter.unusedVariables false
set_option linter.unusedSimpArgs false

theorem tWordT : OneTy Try.prog 22 := .of Try.underlying22 rfl (by kernel_rfl)
def encThree (a b c : Nat) : Array Value := #[.int .u16 a, .int .u16 b, .int .u16 c]
theorem open_three {w : World} {base : Nat} {x : Value} (h : Value.okWide Try.prog w .any base 30 x) :
    ∃ a b c : Nat, a ≤ 65535 ∧ b ≤ 65535 ∧ c ≤ 65535 ∧ x = .agg (encThree a b c) := by
  obtain ⟨cs, rfl, hl, hc⟩ := open_flat (ts := [22, 22, 22]) Try.underlying30 rfl (by kernel_rfl) (by kernel_rfl) h
  match cs, hl with
  | [c0, c1, c2], _ =>
    obtain ⟨n0, rfl, b0⟩ := cell_int Try.underlying22 (hc 0 _ _ rfl rfl)
    obtain ⟨n1, rfl, b1⟩ := cell_int Try.underlying22 (hc 1 _ _ rfl rfl)
    obtain ⟨n2, rfl, b2⟩ := cell_int Try.underlying22 (hc 2 _ _ rfl rfl)
    obtain ⟨l0, u0⟩ : 0 ≤ n0 ∧ n0 ≤ 65535 := b0
    obtain ⟨l1, u1⟩ : 0 ≤ n1 ∧ n1 ≤ 65535 := b1
    obtain ⟨l2, u2⟩ : 0 ≤ n2 ∧ n2 ≤ 65535 := b2
    obtain ⟨a, rfl⟩ := Int.eq_ofNat_of_zero_le l0
    obtain ⟨b, rfl⟩ := Int.eq_ofNat_of_zero_le l1
    obtain ⟨c, rfl⟩ := Int.eq_ofNat_of_zero_le l2
    exact ⟨a, b, c, by omega, by omega, by omega, rfl⟩
theorem div_one (w : World) : Calls Try.prog 11 #[.int .i64 88, .int .u16 7, .int .u16 0, .int .u16 2, .bool true] w fun e w' => e = .returned (.tuple #[.int .u16 3, .int .u16 1, .bool true]) ∧ Below w.heap.size w w' := by
  have h := divD_any 88 7 0 2 true w (by decide) (by decide) (by decide)
  rw [show divQ ((88 : Int) == 89) true (divA ((88 : Int) == 89) true 7 0) (wholeZ ((88 : Int) == 89) true 2) = 3 by decide +kernel, show divR ((88 : Int) == 89) true (divA ((88 : Int) == 89) true 7 0) (wholeZ ((88 : Int) == 89) true 2) = 1 by decide +kernel, show divOk ((88 : Int) == 89) true (divA ((88 : Int) == 89) true 7 0) (wholeZ ((88 : Int) == 89) true 2) = true by decide +kernel] at h
  exact h
theorem div_none (w : World) : Calls Try.prog 11 #[.int .i64 88, .int .u16 7, .int .u16 0, .int .u16 0, .bool true] w fun e w' => e = .returned (.tuple #[.int .u16 0, .int .u16 0, .bool false]) ∧ Below w.heap.size w w' := by
  have h := divD_any 88 7 0 0 true w (by decide) (by decide) (by decide)
  rw [show divQ ((88 : Int) == 89) true (divA ((88 : Int) == 89) true 7 0) (wholeZ ((88 : Int) == 89) true 0) = 0 by decide +kernel, show divR ((88 : Int) == 89) true (divA ((88 : Int) == 89) true 7 0) (wholeZ ((88 : Int) == 89) true 0) = 0 by decide +kernel, show divOk ((88 : Int) == 89) true (divA ((88 : Int) == 89) true 7 0) (wholeZ ((88 : Int) == 89) true 0) = false by decide +kernel] at h
  exact h
set_option maxHeartbeats 400000 in
theorem awake10_any (w0 : World) :
    Calls Try.prog 10 #[] w0 fun e w' => e = .returned (.bool true) ∧ Below w0.heap.size w0 w' := by
  have hR := Own.start w0
  go_enter Try.func10, Try.ntmps10
  go_wp2_with fail
  refine (div_one _).mono ?_
  rintro e w' ⟨rfl, hb⟩
  replace hR := hR.grow hb
  clear hb
  go_wp2_with fail
  refine (div_none _).mono ?_
  rintro e w' ⟨rfl, hb⟩
  replace hR := hR.grow hb
  clear hb
  go_wp2_with fail
  go_ret
  exact ⟨rfl, hR.below⟩
theorem wrap_i64 (x : Int) : IntKind.i64.wrap x = wrap64 x := by rw [IntKind.wrap_i64]; unfold wrap64; rfl
theorem half_quo' {o : Int} (ho : o = 256 ∨ o = 65536) : IntKind.i64.wrap (o.tdiv 2) = o / 2 := by rw [half_quo ho]; exact IntWalk.i64_in _ (by omega)
theorem one_shl (wide : Bool) : wrap64 (2 ^ min (IntKind.u64.wrap ((sizeN wide : Nat) : Int)).toNat 64) = oneZ wide := by cases wide <;> decide +kernel
set_option maxHeartbeats 1000000 in
theorem wholeR_any (x : Nat) (s wide : Bool) (w : World) (h : x ≤ 65535) :
    Calls Try.prog 8 #[.int .u16 x, .bool s, .bool wide] w fun e w' => e = .returned (.int .i64 (wholeZ s wide x)) ∧ w = w' := by
  have hc := cutN_le (wide := wide) h
  have hl := cutN_lt (wide := wide) h
  have HC := Lib.hid (fun w => cutR_any x wide w h)
  have HT := Lib.hid (fun w => topbit_any (cutN wide x) wide w hc hl)
  have ht := topN_le wide
  unfold wholeZ
  generalize cutN wide x = v at *
  obtain ⟨t, hts⟩ : ∃ t, decide (topN wide ≤ v) = t := ⟨_, rfl⟩
  rw [hts] at HT ⊢
  clear hts hl ht
  cases s
  · go_enter Try.func8, Try.ntmps8
    go_wp2_with (first
    | (go_at_call 12; refine (HC.out _).mono ?_; rintro e w' ⟨rfl, rfl⟩))
    go_ret
    exact ⟨rfl, rfl⟩
  · cases t <;> cases wide
    all_goals
      go_enter Try.func8, Try.ntmps8
      go_wp2_with (first
    | (go_at_call 12; refine (HC.out _).mono ?_; rintro e w' ⟨rfl, rfl⟩)
    | (go_at_call 9; refine (size_any _ _).mono ?_; rintro e w' ⟨rfl, rfl⟩)
    | (go_at_call 22; refine (HT.out _).mono ?_; rintro e w' ⟨rfl, rfl⟩))
      go_ret
      refine ⟨ret_int ?_, rfl⟩
      first | rfl | (rw [one_shl]; exact IntWalk.wrap64_in _ (by simp only [oneZ, cond_true, cond_false]; omega))
end Go.Proofs.Ytpkobahelnopmaa
