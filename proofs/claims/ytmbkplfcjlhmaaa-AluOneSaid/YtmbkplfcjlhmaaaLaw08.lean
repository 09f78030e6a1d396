




/- The contract of 'awake' of hansomlaw08; two words as a law's argument. No statement of the seat is proved here. -/
import Derived.Test.YtmbkplfcjlhmaaaAlu
import Derived.Test.YtmbkplfcjlhmaaaSame
import Derived.Test.YtmbkplfcjlhmaaaTame
namespace Go.Proofs.Ytmbkplfcjlhmaaa
open Go.ChangeShapes Go.WideShapes Go.ChangeAt Go.RowKit
set_option linter.unusedVariables false
set_option linter.unusedSimpArgs false

theorem tWordL : OneTy Try.prog 22 := .of Try.underlying22 rfl (by kernel_rfl)
def encTwo (n k : Nat) : Array Value := #[.int .u16 n, .int .u16 k]
theorem open_two {w : World} {base : Nat} {x : Value} (h : Value.okWide Try.prog w .any base 23 x) :
    ∃ n k : Nat, n ≤ 65535 ∧ k ≤ 65535 ∧ x = .agg (encTwo n k) := by
  obtain ⟨cs, rfl, hl, hc⟩ := open_flat (ts := [22, 22]) Try.underlying23 rfl (by kernel_rfl) (by kernel_rfl) h
  match cs, hl with
  | [c0, c1], _ =>
    obtain ⟨n0, rfl, b0⟩ := cell_int Try.underlying22 (hc 0 _ _ rfl rfl)
    obtain ⟨n1, rfl, b1⟩ := cell_int Try.underlying22 (hc 1 _ _ rfl rfl)
    obtain ⟨h0, h1⟩ : 0 ≤ n0 ∧ n0 ≤ 65535 := b0
    obtain ⟨h2, h3⟩ : 0 ≤ n1 ∧ n1 ≤ 65535 := b1
    obtain ⟨n, rfl⟩ := Int.eq_ofNat_of_zero_le h0
    obtain ⟨k, rfl⟩ := Int.eq_ofNat_of_zero_le h2
    exact ⟨n, k, by omega, by omega, rfl⟩

theorem do_one (w : World) : Calls Try.prog 6 #[.int .i64 1, .int .u16 127, .int .u16 1, .bool false, .bool false] w fun e w' => e = .returned (.tuple #[.int .u16 128, .int .u16 2192, .bool true]) ∧ w = w' := by
  have h := do_any 1 127 1 false false w (by decide) (by decide)
  rw [show doV 1 false false (cutN false 127) (cutN false 1) = 128 by decide +kernel, show doF 1 false false (cutN false 127) (cutN false 1) = 2192 by decide +kernel, show doB 1 = true by decide +kernel] at h
  exact h
theorem cut_one (w : World) : Calls Try.prog 15 #[.int .u16 511, .bool false] w fun e w' => e = .returned (.int .u16 255) ∧ w = w' := by
  have h := cut_any 511 false w (by decide)
  rw [show cutN false 511 = 255 by decide +kernel] at h
  exact h
set_option maxHeartbeats 400000 in
theorem awake08_any (w : World) :
    Calls Try.prog 8 #[] w fun e w' => e = .returned (.bool true) ∧ w = w' := by
  go_enter Try.func8, Try.ntmps8
  go_wp2_with (first
    | (go_at_call 6; refine (do_one _).mono ?_; rintro e w' ⟨rfl, rfl⟩)
    | (go_at_call 15; refine (cut_one _).mono ?_; rintro e w' ⟨rfl, rfl⟩))
  go_ret
  exact ⟨rfl, rfl⟩
end Go.Proofs.Ytmbkplfcjlhmaaa
