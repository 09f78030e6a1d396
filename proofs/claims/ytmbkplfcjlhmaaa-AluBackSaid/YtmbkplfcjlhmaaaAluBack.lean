/- The law AluBack (what is added and taken away again is what it was; a number without itself is 0, and less than none) returns true whatever the arguments, and each argument reads afterwards as before. There is no condition on the arguments. -/
import Derived.Test.YtmbkplfcjlhmaaaRows
import Derived.Test.YtmbkplfcjlhmaaaLaw08
import Derived.WalkKit
import Derived.ProofKit
import Derived.OpenShut
import Derived.ShutString
import Derived.ChangeOld
import Derived.Below
namespace Go.Proofs.Ytmbkplfcjlhmaaa.aluBack
open Go.ChangeShapes Go.WideShapes Go.ChangeAt Go.RowKit
open Go.ChangeMaps (open_string shut_string)
set_option linter.unusedVariables false
set_option linter.unusedSimpArgs false

theorem own : ownKnob Try.prog.godebug = none := by kernel_rfl
theorem laidOut : laidOutB Try.prog = true := by kernel_rfl

theorem bc1 (f : Nat) (hf : f ≤ 65535) : (bits .and .u16 (f : Int) 1 != 0) = onB f 0 := and_bit f 0 hf (by decide) 1 rfl
theorem flag_on (c p a z s o : Bool) : onB (flagsN c p a z s o) 0 = c := by
  have h := flag_c c p a z s o
  have h2 := and_on (flagsN c p a z s o) 0
  rw [show (2 : Nat) ^ 0 = 1 from rfl, h] at h2
  cases c <;> simp_all
set_option maxHeartbeats 4000000 in
theorem part (a b : Nat) (ha : a ≤ 65535) (hb : b ≤ 65535) (wide : Bool) (w : World) :
    Calls Try.prog 5 #[.int .u16 a, .int .u16 b, .bool wide] w fun e w' => e = .returned (.bool true) ∧ Below w.heap.size w w' := by
  have la := cutN_lt (wide := wide) ha
  have lb := cutN_lt (wide := wide) hb
  have ca := cutN_le (wide := wide) ha
  have ht := topN_le wide
  obtain ⟨s, hs⟩ : ∃ s, addV wide (cutN wide a) (cutN wide b) 0 = s := ⟨_, rfl⟩
  obtain ⟨F, hF⟩ : ∃ F, addF wide (cutN wide a) (cutN wide b) 0 = F := ⟨_, rfl⟩
  obtain ⟨G, hG⟩ : ∃ G, subF wide s (cutN wide b) 0 = G := ⟨_, rfl⟩
  obtain ⟨n, hn⟩ : ∃ n, subV wide 0 (cutN wide a) 0 = n := ⟨_, rfl⟩
  obtain ⟨N, hN⟩ : ∃ N, oneF 85 wide (cutN wide a) 0 = N := ⟨_, rfl⟩
  obtain ⟨M, hM⟩ : ∃ M, oneF 85 wide n 0 = M := ⟨_, rfl⟩
  obtain ⟨q, hq⟩ : ∃ q, s ^^^ cutN wide b = q := ⟨_, rfl⟩
  obtain ⟨Q, hQ⟩ : ∃ Q, signsN wide q = Q := ⟨_, rfl⟩
  obtain ⟨R, hR⟩ : ∃ R, signsN wide s = R := ⟨_, rfl⟩
  have ls : s < 2 * topN wide := hs ▸ addV_lt _ _ _ _
  have ln : n < 2 * topN wide := hn ▸ subV_lt _ _ _ _
  have hsb := sub_add la lb
  rw [hs] at hsb
  have hnn := neg_neg la
  rw [hn] at hnn
  have hqs : q = cutN wide (s ^^^ b) := by rw [cut_xor, cutN_id ls]; exact hq.symm
  have lq : cutN wide q = q := by rw [hqs, cutN_cut]
  have q65 : q ≤ 65535 := by
    have h1 : s ≤ 65535 := by omega
    have h2 : cutN wide b ≤ 65535 := cutN_le hb
    rw [← hq]; exact xor_le h1 h2
  have hqb : q ^^^ cutN wide b = s := by rw [← hq, Nat.xor_assoc, Nat.xor_self, Nat.xor_zero]
  have hc : onB F 0 = onB G 0 := by
    rw [← hF, ← hG]
    unfold addF subF sumF
    rw [flag_on, flag_on, ← hs, bor_car la lb]
  have fF : F ≤ 65535 := by have : F ≤ 2261 := hF ▸ flagsN_le _ _ _ _ _ _
                            omega
  have fG : G ≤ 65535 := by have : G ≤ 2261 := hG ▸ flagsN_le _ _ _ _ _ _
                            omega
  have H1 := Lib.hid (fun w => do_any 1 a b false wide w ha hb)
  have H2 := Lib.hid (fun w => do_any 6 s b false wide w (by omega) hb)
  have H3 := Lib.hid (fun w => do_any 6 a a true wide w ha ha)
  have H4 := Lib.hid (fun w => one_any 85 a 0 wide w ha (by decide))
  have H5 := Lib.hid (fun w => one_any 85 n 0 wide w (by omega) (by decide))
  have H6 := Lib.hid (fun w => do_any 7 s b false wide w (by omega) hb)
  have H7 := Lib.hid (fun w => do_any 7 q b false wide w q65 hb)
  have HX := Lib.hid (fun w => cut_any a wide w ha)
  rw [show doV 1 wide false (cutN wide a) (cutN wide b) = s from hs, show doF 1 wide false (cutN wide a) (cutN wide b) = F from hF] at H1
  rw [cutN_id ls, show doV 6 wide false s (cutN wide b) = cutN wide a from hsb, show doF 6 wide false s (cutN wide b) = G from hG] at H2
  rw [show doV 6 wide true (cutN wide a) (cutN wide a) = 0 from sub_self wide la, show doF 6 wide true (cutN wide a) (cutN wide a) = 68 from subF_self wide la] at H3
  rw [show oneV 85 wide (cutN wide a) = n by rw [← hn]; unfold oneV; simp; cases wide <;> rfl, hN] at H4
  rw [cutN_id ln, show oneV 85 wide n = cutN wide a by rw [← hnn]; unfold oneV; simp; cases wide <;> rfl, hM] at H5
  rw [cutN_id ls, show doV 7 wide false s (cutN wide b) = q from hq, show doF 7 wide false s (cutN wide b) = Q by rw [← hQ, ← hq]; rfl] at H6
  rw [lq, show doV 7 wide false q (cutN wide b) = s from hqb, show doF 7 wide false q (cutN wide b) = R by rw [← hR, ← hqb]; rfl] at H7
  have HC := Lib.hid hc
  clear hs hF hG hn hN hM hq hQ hR hsb hnn hqs lq hqb hc
  generalize cutN wide a = x at *
  go_enter Try.func5, Try.ntmps5
  go_wp2_with fail
  refine (H1.out _).mono ?_
  rintro e w' ⟨rfl, rfl⟩
  go_wp2_with fail
  refine (H2.out _).mono ?_
  rintro e w' ⟨rfl, rfl⟩
  go_wp2_with fail
  refine (H3.out _).mono ?_
  rintro e w' ⟨rfl, rfl⟩
  go_wp2_with fail
  refine (H4.out _).mono ?_
  rintro e w' ⟨rfl, rfl⟩
  go_wp2_with fail
  refine (H5.out _).mono ?_
  rintro e w' ⟨rfl, rfl⟩
  go_wp2_with fail
  refine (H6.out _).mono ?_
  rintro e w' ⟨rfl, rfl⟩
  go_wp2_with fail
  refine (H7.out _).mono ?_
  rintro e w' ⟨rfl, rfl⟩
  go_wp2_with (first
    | (go_at_call 8; refine (awake08_any _).mono ?_; rintro e w' ⟨rfl, rfl⟩)
    | (go_at_call 15; refine (HX.out _).mono ?_; rintro e w' ⟨rfl, rfl⟩))
  · go_ret
    exact ⟨rfl, Below.refl _ _⟩
  · rename_i hne
    exact absurd (by rw [bc1 F fF, bc1 G fG]; exact HC.out) hne
theorem walk (a0 : Int) (w0 : (Lit.int .u16 a0).wf = true) (a1 : Int) (w1 : (Lit.int .u16 a1).wf = true) (a2 : Bool) (w : World) :
    Calls Try.prog 5 #[.int .u16 a0, .int .u16 a1, .bool a2] w fun e w' => e = .returned (.bool true) ∧ Below w.heap.size w w' := by
  obtain ⟨h0, h1⟩ := bounds_u16 w0
  obtain ⟨h2, h3⟩ := bounds_u16 w1
  obtain ⟨a, rfl⟩ := Int.eq_ofNat_of_zero_le h0
  obtain ⟨b, rfl⟩ := Int.eq_ofNat_of_zero_le h2
  exact part a b (by omega) (by omega) a2 w

set_option maxRecDepth 100000 in
theorem lifted (os : Os) (started : os.Started) (H : Type) (enc : TypeId × Value → H) :
    ReturnsInHanded {} Try.checked os 5 .any (Rows.aluBackSpec.pre6 enc Try.prog Try.f5 Rows.aluBackRow.domain false) (Rows.aluBackSpec.post enc Try.prog Try.f5 false true false false) := by
  refine returnsInHanded_of_change (C := Try.checked) own started (by kernel_rfl) Try.func5
    (ChangeSpec.witness6 (enc := enc) (C := Try.checked) false ⟨#[], #[.int .u16 0, .int .u16 0, .bool false], []⟩ 8 (by kernel_rfl) (by kernel_rfl) (by kernel_rfl) (by kernel_rfl)) ?_
  intro W base args ds gs before hval0 hW hcnd _
  have hval : ∀ (j : Nat) t v, Try.f5.params[j]? = some t → args[j]? = some v → Value.okWide Try.prog W .any base t v := hval0
  have hW' := hW
  obtain ⟨p, q, hA0, hV, rfl, hfz, hnd⟩ := hW
  have hA : DataW.TrodAll enc Try.prog W 0 (fun _ => true) true Try.f5.params.toList args.toList ds p := hA0
  rw [Try.params5] at hA hval
  obtain ⟨v0, vs0, d0, ds0, p0, q0, hargs, rfl, rfl, h0, r0⟩ := trodAll_cons hA
  obtain ⟨v1, vs1, d1, ds1, p1, q1, rfl, rfl, rfl, h1, r1⟩ := trodAll_cons r0
  obtain ⟨v2, vs2, d2, ds2, p2, q2, rfl, rfl, rfl, h2, r2⟩ := trodAll_cons r1
  obtain ⟨rfl, rfl, rfl⟩ := trodAll_nil r2
  obtain rfl : args = #[v0, v1, v2] := by cases args; simp_all
  obtain ⟨rfl, rfl⟩ := trodVars_none hV
  obtain ⟨a0, rfl, rfl, rfl, w0⟩ := open_int Try.underlying22 (hval 0 22 v0 rfl rfl) h0
  obtain ⟨a1, rfl, rfl, rfl, w1⟩ := open_int Try.underlying22 (hval 1 22 v1 rfl rfl) h1
  obtain ⟨a2, rfl, rfl, rfl⟩ := open_bool Try.underlying4 (hval 2 4 v2 rfl rfl) h2
  clear hA0 hval0
  refine (walk a0 w0 a1 w1 a2 W).mono fun e W' ⟨he, bel⟩ => ?_
  subst he
  exact ⟨_, rfl, _, _, _, [], _, [], hW', trodAll_mk1 (shut_bool Try.underlying4 _), (trodAll_cons_mk (shut_int Try.underlying22 w0) (trodAll_cons_mk (shut_int Try.underlying22 w1) (trodAll_cons_mk (shut_bool Try.underlying4 _) trodAll_mk0))), rfl, bel.frame _, fun h => by cases h⟩

theorem over : Rows.aluBackRow.holds Try.pinned (OpenSpec.ofChange Rows.aluBackSpec) :=
  OpenClaim.holds_of_wide 5 Try.f5 rfl rfl rfl rfl rfl rfl rfl ⟨rfl, rfl, rfl, rfl, rfl⟩ rfl rfl rfl rfl rfl (by kernel_rfl) Try.func5 (by kernel_rfl)
    (of_decide_eq_true (by kernel_rfl)) (by unfold Func.isWrapper; first | (rw [if_pos (by decide +kernel)]; kernel_rfl) | (rw [if_neg (by decide +kernel)]; exact ⟨rfl, rfl⟩))
    (fun os started H enc _ => lifted os started H enc)

theorem proved : Rows.AluBackSaid := over
#print axioms proved
end Go.Proofs.Ytmbkplfcjlhmaaa.aluBack
