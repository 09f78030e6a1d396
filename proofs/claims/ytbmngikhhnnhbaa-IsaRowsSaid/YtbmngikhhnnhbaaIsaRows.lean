/- The law IsaRows (what each first byte says, with the middle of the second one) returns true whatever the arguments, and each argument reads afterwards as before. There is no condition on the arguments. -/
import Derived.Test.YtbmngikhhnnhbaaRows
import Derived.Test.YtbmngikhhnnhbaaLaw04
import Derived.WalkKit
import Derived.ProofKit
import Derived.OpenShut
import Derived.ShutString
import Derived.ChangeOld
import Derived.Below
namespace Go.Proofs.Ytbmngikhhnnhbaa.isaRows
open Go.ChangeShapes Go.WideShapes Go.ChangeAt Go.RowKit
open Go.ChangeMaps (open_string shut_string)
set_option linter.unusedVariables false

theorem own : ownKnob Try.prog.godebug = none := by kernel_rfl
theorem laidOut : laidOutB Try.prog = true := by kernel_rfl

set_option maxHeartbeats 4000000 in
theorem walk (a0 : Int) (w0 : (Lit.int .u8 a0).wf = true) (a1 : Int) (w1 : (Lit.int .i64 a1).wf = true) (w : World) :
    Calls Try.prog 3 #[.int .u8 a0, .int .i64 a1] w fun e w' => e = .returned (.bool true) ∧ Below w.heap.size w w' := by
  have b0 := bounds_u8 w0
  clear w0 w1
  obtain ⟨op, rfl⟩ := Int.eq_ofNat_of_zero_le b0.1
  have h1 : op ≤ 255 := by omega
  clear b0
  have hk := and7_bd a1
  obtain ⟨m, hm⟩ := Int.eq_ofNat_of_zero_le hk.1
  rw [hm] at hk
  have HM := Lib.hid hm
  clear hm
  have h7 : m ≤ 7 := by omega
  obtain ⟨⟨rn, ra, rb, rm, ro⟩, hr⟩ : ∃ r, r = ofR op m := ⟨_, rfl⟩
  have HR := Lib.hid hr
  clear hr
  go_enter Try.func3, Try.ntmps3
  go_wp2_with fail
  refine (of_k op a1 m _ (by omega) (by omega) HM.out).mono ?_; rw [← HR.out]; rintro e w1 ⟨rfl, hb1⟩
  have hz1 := hb1.size
  go_wp2_with fail
  refine (rowR_any op m a1 _ h1 HM.out h7).mono ?_; rw [← HR.out]; rintro e w2 ⟨rfl, hb2⟩
  have hz2 : w1.heap.size < w2.heap.size := by have := hb2.size; simp at this; omega
  obtain ⟨hc2, hf2⟩ := bcell hb2
  go_wp2_with fail
  go_loopw [9, 10] (fun t i wr => ∃ j : Nat, j ≤ 8 ∧ t = .bool (twoO op j) ∧ i = .int .i64 j ∧ Below (w2.alloc (.cells #[.int .i64 rn, .int .i64 ra, .int .i64 rb, .bool rm] 23)).heap.size (w2.alloc (.cells #[.int .i64 rn, .int .i64 ra, .int .i64 rb, .bool rm] 23)) wr) (fun _ i _ => 8 - (intOf i).toNat)
  case atStart => exact ⟨0, by omega, rfl, rfl, Below.refl _ _⟩
  case round =>
    obtain ⟨j, hj, rfl, rfl, hb3⟩ := hrel
    by_cases hlt : j < 8
    · have H7 := Lib.hid (and7_small j hlt)
      rcases Bool.eq_false_or_eq_true (twoO op j) with ht | ht
      all_goals rcases Bool.eq_false_or_eq_true (ofR op j).2.2.2.2 with hn | hn
      all_goals
        go_wp2_with (go_at_call 7; refine (rowR_any op j _ _ h1 H7.out (by omega)).mono ?_; rintro e w' ⟨rfl, hb⟩; have hz := hb.size)
        go_roundw
        case rel => exact ⟨j + 1, by omega, val_bool (by simp [twoO, ht, hn]), by go_num, (hb3.trans (hb.mono hb3.size)).alloc (Nat.le_trans hb3.size hb.size) _⟩
        case measure => simp [intOf]; omega
    · obtain rfl : j = 8 := by omega
      go_wp2_with fail
      refine (awake_any _).mono ?_; rintro e w3 ⟨rfl, hb⟩
      have hb4 := hb3.trans (hb.mono hb3.size)
      clear hb hb3
      obtain ⟨hc3, hf3⟩ := bcell hb4
      have hz3 : w2.heap.size < w3.heap.size := by have := hb4.size; simp at this; omega
      go_wp2_with fail
      refine (grp_any _ _).mono ?_; rintro e w' ⟨rfl, rfl⟩
      go_wp2_with fail
      refine (grpR_same _ _ h1).mono ?_; rintro e w' ⟨rfl, rfl⟩
      go_wp2_with fail
      refine (two_same _ _ h1).mono ?_; rintro e w4 ⟨rfl, hb5⟩
      go_wp2_with fail
      go_ret
      have hz4 := hb4.size
      simp at hz4
      exact ⟨rfl, ((((hb1.alloc hz1 _).trans (hb2.mono (by simp; omega))).alloc (by omega) _).trans (hb4.mono (by simp; omega))).trans (hb5.mono (by omega))⟩

set_option maxRecDepth 100000 in
theorem lifted (os : Os) (started : os.Started) (H : Type) (enc : TypeId × Value → H) :
    ReturnsInHanded {} Try.checked os 3 .any (Rows.isaRowsSpec.pre6 enc Try.prog Try.f3 Rows.isaRowsRow.domain false) (Rows.isaRowsSpec.post enc Try.prog Try.f3 false true false false) := by
  refine returnsInHanded_of_change (C := Try.checked) own started (by kernel_rfl) Try.func3
    (ChangeSpec.witness6 (enc := enc) (C := Try.checked) false ⟨#[], #[.int .u8 0, .int .i64 0], []⟩ 8 (by kernel_rfl) (by kernel_rfl) (by kernel_rfl) (by kernel_rfl)) ?_
  intro W base args ds gs before hval0 hW hcnd _
  have hval : ∀ (j : Nat) t v, Try.f3.params[j]? = some t → args[j]? = some v → Value.okWide Try.prog W .any base t v := hval0
  have hW' := hW
  obtain ⟨p, q, hA0, hV, rfl, hfz, hnd⟩ := hW
  have hA : DataW.TrodAll enc Try.prog W 0 (fun _ => true) true Try.f3.params.toList args.toList ds p := hA0
  rw [Try.params3] at hA hval
  obtain ⟨v0, vs0, d0, ds0, p0, q0, hargs, rfl, rfl, h0, r0⟩ := trodAll_cons hA
  obtain ⟨v1, vs1, d1, ds1, p1, q1, rfl, rfl, rfl, h1, r1⟩ := trodAll_cons r0
  obtain ⟨rfl, rfl, rfl⟩ := trodAll_nil r1
  obtain rfl : args = #[v0, v1] := by cases args; simp_all
  obtain ⟨rfl, rfl⟩ := trodVars_none hV
  obtain ⟨a0, rfl, rfl, rfl, w0⟩ := open_int Try.underlying5 (hval 0 5 v0 rfl rfl) h0
  obtain ⟨a1, rfl, rfl, rfl, w1⟩ := open_int Try.underlying3 (hval 1 3 v1 rfl rfl) h1
  clear hA0 hval0
  refine (walk a0 w0 a1 w1 W).mono fun e W' ⟨he, bel⟩ => ?_
  subst he
  exact ⟨_, rfl, _, _, _, [], _, [], hW', trodAll_mk1 (shut_bool Try.underlying4 _), (trodAll_cons_mk (shut_int Try.underlying5 w0) (trodAll_cons_mk (shut_int Try.underlying3 w1) trodAll_mk0)), rfl, bel.frame _, fun h => by cases h⟩

theorem over : Rows.isaRowsRow.holds Try.pinned (OpenSpec.ofChange Rows.isaRowsSpec) :=
  OpenClaim.holds_of_wide 3 Try.f3 rfl rfl rfl rfl rfl rfl rfl ⟨rfl, rfl, rfl, rfl, rfl⟩ rfl rfl rfl rfl rfl (by kernel_rfl) Try.func3 (by kernel_rfl)
    (of_decide_eq_true (by kernel_rfl)) (by unfold Func.isWrapper; first | (rw [if_pos (by decide +kernel)]; kernel_rfl) | (rw [if_neg (by decide +kernel)]; exact ⟨rfl, rfl⟩))
    (fun os started H enc _ => lifted os started H enc)

theorem proved : Rows.IsaRowsSaid := over
#print axioms proved
end Go.Proofs.Ytbmngikhhnnhbaa.isaRows
