/- The law BitsSteps (how many paragraphs bytes need, multiples of steps, and digits) returns true whatever the arguments, and each argument reads afterwards as before. There is no condition on the arguments. -/
import Derived.Test.YtibpgcnccehnjaaRows
import Derived.Test.YtibpgcnccehnjaaLaw01
import Derived.WalkKit
import Derived.ProofKit
import Derived.OpenShut
import Derived.ShutString
import Derived.ChangeOld
import Derived.Below
namespace Go.Proofs.Ytibpgcnccehnjaa.bitsSteps
open Go.ChangeShapes Go.WideShapes Go.ChangeAt Go.RowKit
open Go.ChangeMaps (open_string shut_string)
set_option linter.unusedVariables false

theorem own : ownKnob Try.prog.godebug = none := by kernel_rfl
theorem laidOut : laidOutB Try.prog = true := by kernel_rfl

/-- The number of digits that are asked for: the last 4 bits of a number. -/
theorem last4 (n : Int) : 0 ≤ bits .and .i64 n 15 ∧ bits .and .i64 n 15 ≤ 15 := by
  show 0 ≤ IntKind.i64.wrap ((BitVec.ofInt 64 n &&& BitVec.ofInt 64 15).toNat : Int) ∧ IntKind.i64.wrap ((BitVec.ofInt 64 n &&& BitVec.ofInt 64 15).toNat : Int) ≤ 15
  have h : (BitVec.ofInt 64 n &&& BitVec.ofInt 64 15).toNat ≤ 15 := by
    rw [BitVec.toNat_and]
    exact Nat.and_le_right
  rw [IntWalk.i64_in _ (by omega)]
  omega

theorem hex_8 (x : Int) (w : World) (h0 : 0 ≤ x) (h1 : x ≤ 4294967295) :
    Calls Try.prog 19 #[.int .u32 x, .int .i64 8] w fun e w' => e = .returned (.string ⟨(hexB 8 x).toArray⟩) ∧ Below w.heap.size w w' := hex_any x 8 w h0 h1 (by omega)
theorem hex_1 (x : Int) (w : World) (h0 : 0 ≤ x) (h1 : x ≤ 4294967295) :
    Calls Try.prog 19 #[.int .u32 x, .int .i64 1] w fun e w' => e = .returned (.string ⟨(hexB 1 x).toArray⟩) ∧ Below w.heap.size w w' := hex_any x 1 w h0 h1 (by omega)

/-- Is a number one of 1 to 8? -/
def inB (m : Nat) : Bool := decide (1 ≤ m ∧ m ≤ 8)

theorem paras_ref (n : Int) (h : ¬ n < 1) (h' : n ≤ 9223372036854775807) : (if 0 < n % 16 then n / 16 + 1 else n / 16) = parasZ n := by
  unfold parasZ
  rw [if_neg h]
  split <;> omega

set_option maxHeartbeats 1600000 in
theorem walk (a0 : Int) (w0 : (Lit.int .i64 a0).wf = true) (a1 : Int) (w1 : (Lit.int .i64 a1).wf = true) (a2 : Int) (w2 : (Lit.int .u32 a2).wf = true) (w : World) :
    Calls Try.prog 5 #[.int .i64 a0, .int .i64 a1, .int .u32 a2] w fun e w' => e = .returned (.bool true) ∧ Below w.heap.size w w' := by
  have b0 := bounds_i64 w0
  have b1 := bounds_i64 w1
  have b2 := bounds_u32 w2
  clear w0 w1 w2
  have hk := last4 a1
  obtain ⟨m, hm⟩ := Int.eq_ofNat_of_zero_le hk.1
  rw [hm] at hk
  have HM := Lib.hid hm
  clear hm
  go_enter Try.func5, Try.ntmps5
  go_upto_if 11 with fail
  go_cut [7] (fun v wx => v = .int .i64 (parasZ a0) ∧ w = wx)
  case first =>
    by_cases h : a0 < 1
    · have hp : parasZ a0 = 0 := if_pos h
      go_wp2
      go_meet
      exact ⟨by rw [hp], rfl⟩
    · have hp := Lib.hid (paras_ref a0 h (by omega))
      by_cases h' : 0 < a0 % 16
      · go_wp2
        go_meet
        exact ⟨by rw [← hp.out, if_pos h'], rfl⟩
      · go_wp2
        go_meet
        exact ⟨by rw [← hp.out, if_neg (Int.not_lt.2 h')], rfl⟩
  case rest =>
    obtain ⟨rfl, rfl⟩ := hcut
    go_upto_region 6 with fail
    go_cut [8] (fun v wx => v = .int .i64 (m : Int) ∧ w = wx)
    case first =>
      go_wp2
      go_meet
      exact ⟨by rw [HM.out], rfl⟩
    case rest =>
    obtain ⟨rfl, rfl⟩ := hcut
    go_upto_region 8 with fail
    go_cut [26] (fun v wx => v = .bool (inB m) ∧ w = wx)
    case first =>
      by_cases h1 : 1 ≤ m
      · by_cases h8 : m ≤ 8
        · have hi : Hid (inB m = true) := decide_eq_true ⟨h1, h8⟩
          go_wp2
          go_meet
          exact ⟨by rw [hi.out]; simp; try omega, rfl⟩
        · have hi : Hid (inB m = false) := decide_eq_false fun h => h8 h.2
          go_wp2
          go_meet
          exact ⟨by rw [hi.out]; simp; try omega, rfl⟩
      · have hi : Hid (inB m = false) := decide_eq_false fun h => h1 h.1
        go_wp2
        go_meet
        exact ⟨by rw [hi.out], rfl⟩
    case rest =>
    obtain ⟨rfl, rfl⟩ := hcut
    go_upto_if 26 with fail
    go_cut [9] (fun v wx => v = .string ⟨(hexB (manyZ m) a2).toArray⟩ ∧ Below w.heap.size w wx)
    case first =>
      by_cases h1 : 1 ≤ m
      · by_cases h8 : m ≤ 8
        · rw [show inB m = true from decide_eq_true ⟨h1, h8⟩]
          have hm : Hid (manyZ (m : Int) = m) := by unfold Hid manyZ; rw [if_neg (by omega), if_neg (by omega)]; omega
          go_wp2_with (first
            | (go_at_call 19; refine (hex_any _ _ _ (by omega) (by omega) (by omega)).mono ?_; rintro e w' ⟨rfl, hb⟩))
          go_meet
          exact ⟨by rw [hm.out], hb⟩
        · rw [show inB m = false from decide_eq_false fun h => h8 h.2]
          have hm : Hid (manyZ (m : Int) = 8) := by unfold Hid manyZ; rw [if_neg (by omega), if_pos (by omega)]
          go_wp2_with (first
            | (go_at_call 19; refine (hex_8 _ _ (by omega) (by omega)).mono ?_; rintro e w' ⟨rfl, hb⟩))
          go_meet
          exact ⟨by rw [hm.out], hb⟩
      · rw [show inB m = false from decide_eq_false fun h => h1 h.1]
        have hm : Hid (manyZ (m : Int) = 1) := by unfold Hid manyZ; rw [if_pos (by omega)]
        go_wp2_with (first
          | (go_at_call 19; refine (hex_1 _ _ (by omega) (by omega)).mono ?_; rintro e w' ⟨rfl, hb⟩))
        go_meet
        exact ⟨by rw [hm.out], hb⟩
    case rest =>
    obtain ⟨rfl, hb0⟩ := hcut
    go_wp2_with fail
    refine (awake01_any _).mono ?_; rintro e w' ⟨rfl, hb⟩
    go_wp2_with fail
    refine (paras_any _ _ (by omega) (by omega)).mono ?_; rintro e w' ⟨rfl, rfl⟩
    go_wp2_with fail
    refine (up_any _ _ _ (by omega) (by omega) (by omega) (by omega)).mono ?_; rintro e w' ⟨rfl, rfl⟩
    go_wp2_with fail
    refine (upRef_any _ _ _ (by omega) (by omega) (by omega) (by omega)).mono ?_; rintro e w' ⟨rfl, rfl⟩
    go_wp2_with fail
    refine (up_any _ _ _ (by omega) (by omega) (by omega) (by omega)).mono ?_; rintro e w' ⟨rfl, rfl⟩
    go_wp2_with fail
    refine (upRef_any _ _ _ (by omega) (by omega) (by omega) (by omega)).mono ?_; rintro e w' ⟨rfl, rfl⟩
    go_wp2_with fail
    refine (digits_any _ _ _ (by omega) (by omega)).mono ?_; rintro e w' ⟨rfl, hb'⟩
    go_wp2_with fail
    go_ret
    exact ⟨rfl, hb0.trans ((hb.mono hb0.size).trans (hb'.mono (Nat.le_trans hb0.size hb.size)))⟩

set_option maxRecDepth 100000 in
theorem lifted (os : Os) (started : os.Started) (H : Type) (enc : TypeId × Value → H) :
    ReturnsInHanded {} Try.checked os 5 .any (Rows.bitsStepsSpec.pre6 enc Try.prog Try.f5 Rows.bitsStepsRow.domain false) (Rows.bitsStepsSpec.post enc Try.prog Try.f5 false true false false) := by
  refine returnsInHanded_of_change (C := Try.checked) own started (by kernel_rfl) Try.func5
    (ChangeSpec.witness6 (enc := enc) (C := Try.checked) false ⟨#[], #[.int .i64 0, .int .i64 0, .int .u32 0], []⟩ 8 (by kernel_rfl) (by kernel_rfl) (by kernel_rfl) (by kernel_rfl)) ?_
  intro W base args ds gs before hval0 hW hcnd _
  have hval : ∀ (j : Nat) t v, Try.f5.params[j]? = some t → args[j]? = some v → Value.okWide Try.prog W .any base t v := hval0
  have hW' := hW
  obtain ⟨p, q, hA0, hV, rfl, hfz, hnd⟩ := hW
  have hA : DataW.TrodAll enc Try.prog W 0 (fun _ => true) true Try.f5.params.toList args.toList ds p := hA0
  rw [Try.params5] at hA hval
  obtain ⟨v0, vs0, d0, ds0, p0, q0, hargs, rfl, rfl, h0, r0⟩ := trodAll_cons hA
  obtain ⟨v1, vs1, d1, ds1, p1, q1, rfl, rfl, rfl, h1, r1⟩ := trodAll_cons r0
  obtain ⟨v2, vs2, d2, ds2, p2, q2, rfl, rfl, rfl, h2, r2⟩ := trodAll_cons r1
  obtain ⟨rfl, rfl, rfl⟩ := trodAll_nil r2
  obtain rfl : args = #[v0, v1, v2] := by cases args; simp_all
  obtain ⟨rfl, rfl⟩ := trodVars_none hV
  obtain ⟨a0, rfl, rfl, rfl, w0⟩ := open_int Try.underlying3 (hval 0 3 v0 rfl rfl) h0
  obtain ⟨a1, rfl, rfl, rfl, w1⟩ := open_int Try.underlying3 (hval 1 3 v1 rfl rfl) h1
  obtain ⟨a2, rfl, rfl, rfl, w2⟩ := open_int Try.underlying31 (hval 2 31 v2 rfl rfl) h2
  clear hA0 hval0
  refine (walk a0 w0 a1 w1 a2 w2 W).mono fun e W' ⟨he, bel⟩ => ?_
  subst he
  exact ⟨_, rfl, _, _, _, [], _, [], hW', trodAll_mk1 (shut_bool Try.underlying4 _), (trodAll_cons_mk (shut_int Try.underlying3 w0) (trodAll_cons_mk (shut_int Try.underlying3 w1) (trodAll_cons_mk (shut_int Try.underlying31 w2) trodAll_mk0))), rfl, bel.frame _, fun h => by cases h⟩

theorem over : Rows.bitsStepsRow.holds Try.pinned (OpenSpec.ofChange Rows.bitsStepsSpec) :=
  OpenClaim.holds_of_wide 5 Try.f5 rfl rfl rfl rfl rfl rfl rfl ⟨rfl, rfl, rfl, rfl, rfl⟩ rfl rfl rfl rfl rfl (by kernel_rfl) Try.func5 (by kernel_rfl)
    (of_decide_eq_true (by kernel_rfl)) (by unfold Func.isWrapper; first | (rw [if_pos (by decide +kernel)]; kernel_rfl) | (rw [if_neg (by decide +kernel)]; exact ⟨rfl, rfl⟩))
    (fun os started H enc _ => lifted os started H enc)

theorem proved : Rows.BitsStepsSaid := over
#print axioms proved
end Go.Proofs.Ytibpgcnccehnjaa.bitsSteps
