/- The law ShiftTurns (What is turned left and right again is what it was) returns true whatever the arguments, and each argument reads afterwards as before. There is no condition on the arguments. -/
import Derived.Test.YtcplcjfkehogkaaRows
import Derived.Test.YtcplcjfkehogkaaShiftL
import Derived.WalkKit
import Derived.ProofKit
import Derived.OpenShut
import Derived.ShutString
import Derived.ChangeOld
import Derived.Below
namespace Go.Proofs.Ytcplcjfkehogkaa.shiftTurns
open Go.ChangeShapes Go.WideShapes Go.ChangeAt Go.RowKit
open Go.ChangeMaps (open_string shut_string)
set_option linter.unusedVariables false
set_option linter.unusedSimpArgs false

theorem own : ownKnob Try.prog.godebug = none := by kernel_rfl
theorem laidOut : laidOutB Try.prog = true := by kernel_rfl

set_option maxHeartbeats 4000000 in
theorem part (v n : Nat) (hv : v ≤ 65535) (hn : n ≤ 255) (wide : Bool) (w : World) :
    Calls Try.prog 4 #[.int .u16 v, .int .u8 n, .bool wide] w fun e w' => e = .returned (.bool true) ∧ Below w.heap.size w w' := by
  have hR := Own.start w
  have hlt : shV 63 wide v n 0 ≤ 65535 := by
    have h1 : shV 63 wide v n 0 < 2 * topN wide := (stepsN_ok (name := 63) n (s := startN wide v 0) (cutN_lt hv) (by show 0 % 2 ≤ 1; omega)).1
    have := topN_le wide
    omega
  have hz : sizeN wide ≤ 16 := by cases wide <;> decide
  have H1 := Lib.hid (fun w => shiftDo_any 63 v n 0 wide w (by decide) (by decide) hv hn (by decide))
  have H2 := Lib.hid (fun w => shiftDo_any 64 (shV 63 wide v n 0) n 0 wide w (by decide) (by decide) hlt hn (by decide))
  have H3 := Lib.hid (fun w => shiftDo_any 63 v (sizeN wide) 0 wide w (by decide) (by decide) hv (by omega) (by decide))
  have H4 := Lib.hid (fun w => shiftDo_any 65 v (sizeN wide + 1) 1 wide w (by decide) (by decide) hv (by omega) (by decide))
  have H5 := Lib.hid (fun w => shiftDo_not 35 v n 0 wide w (by decide) hv hn (by decide))
  have HC := Lib.hid (fun w => cutR_any v wide w hv)
  have hf := turn_flag wide hv
  rw [turn_back wide hv n 0 0] at H2
  rw [turn_all wide hv 0] at H3
  rw [show shV 65 wide v (sizeN wide + 1) 1 = cutN wide v from congrArg Prod.fst (turn_carry wide hv)] at H4
  generalize shV 63 wide v n 0 = a at *
  generalize shF 63 wide v n 0 = F1 at *
  generalize shF 64 wide a n 0 = F2 at *
  generalize shF 63 wide v (sizeN wide) 0 = F3 at *
  generalize shF 65 wide v (sizeN wide + 1) 1 = F4 at *
  have hbit : (0 < bits .and .u16 F4 1) := by
    rcases hf with e | e <;> rw [e] <;> decide +kernel
  clear hf
  generalize cutN wide v = x at *
  cases wide
  all_goals
    go_enter Try.func4, Try.ntmps4
    go_wp2_with (first
    | (go_at_call 9; refine (HC.out _).mono ?_; rintro e w' ⟨rfl, rfl⟩))
    refine (H1.out _).mono ?_
    rintro e w' ⟨rfl, hb⟩
    replace hR := hR.grow hb
    clear hb
    go_wp2_with fail
    refine (H2.out _).mono ?_
    rintro e w' ⟨rfl, hb⟩
    replace hR := hR.grow hb
    clear hb
    go_wp2_with fail
    refine (H3.out _).mono ?_
    rintro e w' ⟨rfl, hb⟩
    replace hR := hR.grow hb
    clear hb
    go_wp2_with fail
    refine (H4.out _).mono ?_
    rintro e w' ⟨rfl, hb⟩
    replace hR := hR.grow hb
    clear hb
    go_wp2_with fail
    refine (H5.out _).mono ?_
    rintro e w' ⟨rfl, hb⟩
    replace hR := hR.grow hb
    clear hb
    go_wp2_with (first
    | (go_at_call 8; refine (awake09_any _).mono ?_; rintro e w' ⟨rfl, hb⟩; replace hR := hR.grow hb; clear hb))
    go_ret
    exact ⟨rfl, hR.below⟩
theorem walk (a0 : Int) (w0 : (Lit.int .u16 a0).wf = true) (a1 : Int) (w1 : (Lit.int .u8 a1).wf = true) (a2 : Bool) (w : World) :
    Calls Try.prog 4 #[.int .u16 a0, .int .u8 a1, .bool a2] w fun e w' => e = .returned (.bool true) ∧ Below w.heap.size w w' := by
  obtain ⟨h0, h1⟩ := bounds_u16 w0
  obtain ⟨h2, h3⟩ := bounds_u8 w1
  obtain ⟨a, rfl⟩ := Int.eq_ofNat_of_zero_le h0
  obtain ⟨b, rfl⟩ := Int.eq_ofNat_of_zero_le h2
  exact part a b (by omega) (by omega) a2 w

set_option maxRecDepth 100000 in
theorem lifted (os : Os) (started : os.Started) (H : Type) (enc : TypeId × Value → H) :
    ReturnsInHanded {} Try.checked os 4 .any (Rows.shiftTurnsSpec.pre6 enc Try.prog Try.f4 Rows.shiftTurnsRow.domain false) (Rows.shiftTurnsSpec.post enc Try.prog Try.f4 false true false false) := by
  refine returnsInHanded_of_change (C := Try.checked) own started (by kernel_rfl) Try.func4
    (ChangeSpec.witness6 (enc := enc) (C := Try.checked) false ⟨#[], #[.int .u16 0, .int .u8 0, .bool false], []⟩ 8 (by kernel_rfl) (by kernel_rfl) (by kernel_rfl) (by kernel_rfl)) ?_
  intro W base args ds gs before hval0 hW hcnd _
  have hval : ∀ (j : Nat) t v, Try.f4.params[j]? = some t → args[j]? = some v → Value.okWide Try.prog W .any base t v := hval0
  have hW' := hW
  obtain ⟨p, q, hA0, hV, rfl, hfz, hnd⟩ := hW
  have hA : DataW.TrodAll enc Try.prog W 0 (fun _ => true) true Try.f4.params.toList args.toList ds p := hA0
  rw [Try.params4] at hA hval
  obtain ⟨v0, vs0, d0, ds0, p0, q0, hargs, rfl, rfl, h0, r0⟩ := trodAll_cons hA
  obtain ⟨v1, vs1, d1, ds1, p1, q1, rfl, rfl, rfl, h1, r1⟩ := trodAll_cons r0
  obtain ⟨v2, vs2, d2, ds2, p2, q2, rfl, rfl, rfl, h2, r2⟩ := trodAll_cons r1
  obtain ⟨rfl, rfl, rfl⟩ := trodAll_nil r2
  obtain rfl : args = #[v0, v1, v2] := by cases args; simp_all
  obtain ⟨rfl, rfl⟩ := trodVars_none hV
  obtain ⟨a0, rfl, rfl, rfl, w0⟩ := open_int Try.underlying22 (hval 0 22 v0 rfl rfl) h0
  obtain ⟨a1, rfl, rfl, rfl, w1⟩ := open_int Try.underlying5 (hval 1 5 v1 rfl rfl) h1
  obtain ⟨a2, rfl, rfl, rfl⟩ := open_bool Try.underlying4 (hval 2 4 v2 rfl rfl) h2
  clear hA0 hval0
  refine (walk a0 w0 a1 w1 a2 W).mono fun e W' ⟨he, bel⟩ => ?_
  subst he
  exact ⟨_, rfl, _, _, _, [], _, [], hW', trodAll_mk1 (shut_bool Try.underlying4 _), (trodAll_cons_mk (shut_int Try.underlying22 w0) (trodAll_cons_mk (shut_int Try.underlying5 w1) (trodAll_cons_mk (shut_bool Try.underlying4 _) trodAll_mk0))), rfl, bel.frame _, fun h => by cases h⟩

theorem over : Rows.shiftTurnsRow.holds Try.pinned (OpenSpec.ofChange Rows.shiftTurnsSpec) :=
  OpenClaim.holds_of_wide 4 Try.f4 rfl rfl rfl rfl rfl rfl rfl ⟨rfl, rfl, rfl, rfl, rfl⟩ rfl rfl rfl rfl rfl (by kernel_rfl) Try.func4 (by kernel_rfl)
    (of_decide_eq_true (by kernel_rfl)) (by unfold Func.isWrapper; first | (rw [if_pos (by decide +kernel)]; kernel_rfl) | (rw [if_neg (by decide +kernel)]; exact ⟨rfl, rfl⟩))
    (fun os started H enc _ => lifted os started H enc)

theorem proved : Rows.ShiftTurnsSaid := over
#print axioms proved
end Go.Proofs.Ytcplcjfkehogkaa.shiftTurns
