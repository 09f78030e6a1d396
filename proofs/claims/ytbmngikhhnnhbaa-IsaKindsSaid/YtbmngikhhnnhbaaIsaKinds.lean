/- The law IsaKinds (which can be repeated, how many bytes operands have, which may be in memory, and prefixes) returns true whatever the arguments, and each argument reads afterwards as before. There is no condition on the arguments. -/
import Derived.Test.YtbmngikhhnnhbaaRows
import Derived.Test.YtbmngikhhnnhbaaLaw04
import Derived.WalkKit
import Derived.ProofKit
import Derived.OpenShut
import Derived.ShutString
import Derived.ChangeOld
import Derived.Below
namespace Go.Proofs.Ytbmngikhhnnhbaa.isaKinds
open Go.ChangeShapes Go.WideShapes Go.ChangeAt Go.RowKit
open Go.ChangeMaps (open_string shut_string)
set_option linter.unusedVariables false

theorem own : ownKnob Try.prog.godebug = none := by kernel_rfl
theorem laidOut : laidOutB Try.prog = true := by kernel_rfl

theorem pref_or (b : Int) : (b == 38 || b == 46 || b == 54 || b == 62 || b == 240 || b == 242 || b == 243) = prefB b := by
  unfold prefB
  cases b == 38 <;> cases b == 46 <;> cases b == 54 <;> cases b == 62 <;> cases b == 240 <;> cases b == 242 <;> cases b == 243 <;> rfl
theorem mem_or (a : Int) : (a == 1 || a == 2 || a == 19 || a == 20) = memB a := by
  unfold memB
  cases a == 1 <;> cases a == 2 <;> cases a == 19 <;> cases a == 20 <;> rfl

/-- The ways of the four tests on an operand. -/
theorem mem_ways (a : Int) : ((a == 1) = true ∧ memB a = true) ∨ ((a == 1) = false ∧ (a == 2) = true ∧ memB a = true) ∨ ((a == 1) = false ∧ (a == 2) = false ∧ (a == 19) = true ∧ memB a = true) ∨
    ((a == 1) = false ∧ (a == 2) = false ∧ (a == 19) = false ∧ (a == 20) = true ∧ memB a = true) ∨ ((a == 1) = false ∧ (a == 2) = false ∧ (a == 19) = false ∧ (a == 20) = false ∧ memB a = false) := by
  rw [← mem_or]
  cases a == 1 <;> cases a == 2 <;> cases a == 19 <;> cases a == 20 <;> simp

/-- The ways of the seven tests on a byte. -/
theorem pref_ways (b : Int) : ((b == 38) = true ∧ prefB b = true) ∨
    ((b == 38) = false ∧ (b == 46) = true ∧ prefB b = true) ∨
    ((b == 38) = false ∧ (b == 46) = false ∧ (b == 54) = true ∧ prefB b = true) ∨
    ((b == 38) = false ∧ (b == 46) = false ∧ (b == 54) = false ∧ (b == 62) = true ∧ prefB b = true) ∨
    ((b == 38) = false ∧ (b == 46) = false ∧ (b == 54) = false ∧ (b == 62) = false ∧ (b == 240) = true ∧ prefB b = true) ∨
    ((b == 38) = false ∧ (b == 46) = false ∧ (b == 54) = false ∧ (b == 62) = false ∧ (b == 240) = false ∧ (b == 242) = true ∧ prefB b = true) ∨
    ((b == 38) = false ∧ (b == 46) = false ∧ (b == 54) = false ∧ (b == 62) = false ∧ (b == 240) = false ∧ (b == 242) = false ∧ (b == 243) = true ∧ prefB b = true) ∨
    ((b == 38) = false ∧ (b == 46) = false ∧ (b == 54) = false ∧ (b == 62) = false ∧ (b == 240) = false ∧ (b == 242) = false ∧ (b == 243) = false ∧ prefB b = false) := by
  rw [← pref_or]
  cases b == 38 <;> cases b == 46 <;> cases b == 54 <;> cases b == 62 <;> cases b == 240 <;> cases b == 242 <;> cases b == 243 <;> simp

set_option maxHeartbeats 4000000 in
set_option maxRecDepth 100000 in
theorem walk (a0 : Int) (w0 : (Lit.int .i64 a0).wf = true) (a1 : Int) (w1 : (Lit.int .i64 a1).wf = true) (a2 : Int) (w2 : (Lit.int .u8 a2).wf = true) (w : World) :
    Calls Try.prog 4 #[.int .i64 a0, .int .i64 a1, .int .u8 a2] w fun e w' => e = .returned (.bool true) ∧ Below w.heap.size w w' := by
  have b2 := bounds_u8 w2
  clear w0 w1 w2
  obtain ⟨b, rfl⟩ := Int.eq_ofNat_of_zero_le b2.1
  have h1 : b ≤ 255 := by omega
  clear b2
  obtain ⟨k, hkv⟩ : ∃ k, k = b % 8 := ⟨_, rfl⟩
  have hm := fact_and7 b (by omega)
  have hpr := fact_pref b (by omega)
  rw [← hkv] at hm hpr
  have HM := Lib.hid hm
  clear hm
  have hpw : prefB b = true ∧ (ofR b k).2.2.2.2 = false ∨ prefB b = false := by
    rcases Bool.eq_false_or_eq_true (prefB b) with h | h
    · exact .inl ⟨h, hpr h⟩
    · exact .inr h
  clear hkv hpr
  go_enter Try.func4, Try.ntmps4
  go_upto_region 1 with fail
  go_cut [7] (fun v wx => v = .bool (prefB b) ∧ w = wx)
  case first =>
    have hw := pref_ways (b : Int)
    rcases hw with ⟨p1, pp⟩ | ⟨p1, p2, pp⟩ | ⟨p1, p2, p3, pp⟩ | ⟨p1, p2, p3, p4, pp⟩ | ⟨p1, p2, p3, p4, p5, pp⟩ | ⟨p1, p2, p3, p4, p5, p6, pp⟩ | ⟨p1, p2, p3, p4, p5, p6, p7, pp⟩ | ⟨p1, p2, p3, p4, p5, p6, p7, pp⟩
    all_goals
      have PP := Lib.hid pp
      clear pp
      go_wp2_with fail
      go_meet
      exact ⟨val_bool PP.out.symm, rfl⟩
  case rest =>
  obtain ⟨rfl, rfl⟩ := hcut
  go_wp2_with fail
  refine (of_k b b k _ (by omega) (by omega) HM.out).mono ?_; rintro e w1 ⟨rfl, hb1⟩
  have hz1 := hb1.size
  go_wp2_with fail
  refine (awake_any _).mono ?_; rintro e w2 ⟨rfl, hb2⟩
  have hz2 := hb2.size
  simp at hz2
  rcases hpw with ⟨hp, hn⟩ | hp
  all_goals rcases mem_ways a1 with ⟨m1, mm⟩ | ⟨m1, m2, mm⟩ | ⟨m1, m2, m3, mm⟩ | ⟨m1, m2, m3, m4, mm⟩ | ⟨m1, m2, m3, m4, mm⟩
  all_goals
    go_wp2_with fail
    refine (repeats_any _ _).mono ?_; rintro e w' ⟨rfl, rfl⟩
    go_wp2_with fail
    refine (rep_same _ _).mono ?_; rintro e w' ⟨rfl, rfl⟩
    go_wp2_with fail
    refine (immediate_any _ _).mono ?_; rintro e w' ⟨rfl, rfl⟩
    go_wp2_with fail
    refine (imm_same _ _).mono ?_; rintro e w' ⟨rfl, rfl⟩
    go_wp2_with fail
    refine (memory_any _ _).mono ?_; rintro e w' ⟨rfl, rfl⟩
    go_wp2_with fail
    refine (prefix_any _ _).mono ?_; rintro e w' ⟨rfl, rfl⟩
    go_wp2_with fail
    go_ret
    exact ⟨rfl, (hb1.alloc hz1 _).trans (hb2.mono (by simp; omega))⟩

set_option maxRecDepth 100000 in
theorem lifted (os : Os) (started : os.Started) (H : Type) (enc : TypeId × Value → H) :
    ReturnsInHanded {} Try.checked os 4 .any (Rows.isaKindsSpec.pre6 enc Try.prog Try.f4 Rows.isaKindsRow.domain false) (Rows.isaKindsSpec.post enc Try.prog Try.f4 false true false false) := by
  refine returnsInHanded_of_change (C := Try.checked) own started (by kernel_rfl) Try.func4
    (ChangeSpec.witness6 (enc := enc) (C := Try.checked) false ⟨#[], #[.int .i64 0, .int .i64 0, .int .u8 0], []⟩ 8 (by kernel_rfl) (by kernel_rfl) (by kernel_rfl) (by kernel_rfl)) ?_
  intro W base args ds gs before hval0 hW hcnd _
  have hval : ∀ (j : Nat) t v, Try.f4.params[j]? = some t → args[j]? = some v → Value.okWide Try.prog W .any base t v := hval0
  have hW' := hW
  obtain ⟨p, q, hA0, hV, rfl, hfz, hnd⟩ := hW
  have hA : DataW.TrodAll enc Try.prog W 0 (fun _ => true) true Try.f4.params.toList args.toList ds p := hA0
  rw [Try.params4] at hA hval
  obtain ⟨v0, vs0, d0, ds0, p0, q0, hargs, rfl, rfl, h0, r0⟩ := trodAll_cons hA
  obtain ⟨v1, vs1, d1, ds1, p1, q1, rfl, rfl, rfl, h1, r1⟩ := trodAll_cons r0
  obtain ⟨v2, vs2, d2, ds2, p2, q2, rfl, rfl, rfl, h2, r2⟩ := trodAll_cons r1
  obtain ⟨rfl, rfl, rfl⟩ := trodAll_nil r2
  obtain rfl : args = #[v0, v1, v2] := by cases args; simp_all
  obtain ⟨rfl, rfl⟩ := trodVars_none hV
  obtain ⟨a0, rfl, rfl, rfl, w0⟩ := open_int Try.underlying3 (hval 0 3 v0 rfl rfl) h0
  obtain ⟨a1, rfl, rfl, rfl, w1⟩ := open_int Try.underlying3 (hval 1 3 v1 rfl rfl) h1
  obtain ⟨a2, rfl, rfl, rfl, w2⟩ := open_int Try.underlying5 (hval 2 5 v2 rfl rfl) h2
  clear hA0 hval0
  refine (walk a0 w0 a1 w1 a2 w2 W).mono fun e W' ⟨he, bel⟩ => ?_
  subst he
  exact ⟨_, rfl, _, _, _, [], _, [], hW', trodAll_mk1 (shut_bool Try.underlying4 _), (trodAll_cons_mk (shut_int Try.underlying3 w0) (trodAll_cons_mk (shut_int Try.underlying3 w1) (trodAll_cons_mk (shut_int Try.underlying5 w2) trodAll_mk0))), rfl, bel.frame _, fun h => by cases h⟩

theorem over : Rows.isaKindsRow.holds Try.pinned (OpenSpec.ofChange Rows.isaKindsSpec) :=
  OpenClaim.holds_of_wide 4 Try.f4 rfl rfl rfl rfl rfl rfl rfl ⟨rfl, rfl, rfl, rfl, rfl⟩ rfl rfl rfl rfl rfl (by kernel_rfl) Try.func4 (by kernel_rfl)
    (of_decide_eq_true (by kernel_rfl)) (by unfold Func.isWrapper; first | (rw [if_pos (by decide +kernel)]; kernel_rfl) | (rw [if_neg (by decide +kernel)]; exact ⟨rfl, rfl⟩))
    (fun os started H enc _ => lifted os started H enc)

theorem proved : Rows.IsaKindsSaid := over
#print axioms proved
end Go.Proofs.Ytbmngikhhnnhbaa.isaKinds
