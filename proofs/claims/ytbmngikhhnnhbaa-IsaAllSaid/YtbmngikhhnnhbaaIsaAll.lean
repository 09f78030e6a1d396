/-  There is no condition on the arguments. -/
import Derived.Test.YtbmngikhhnnhbaaRows
import Derived.Test.YtbmngikhhnnhbaaAllF
import Derived.WalkKit
import Derived.ProofKit
import Derived.OpenShut
import Derived.ShutString
import Derived.ChangeOld
import Derived.Below
namespace Go.Proofs.Ytbmngikhhnnhbaa.isaAll
open Go.ChangeShapes Go.WideShapes Go.ChangeAt Go.RowKit
open Go.ChangeMaps (open_string shut_string)
set_option linter.unusedVariables false

theorem own : ownKnob Try.prog.godebug = none := by kernel_rfl
theorem laidOut : laidOutB Try.prog = true := by kernel_rfl


set_option maxHeartbeats 4000000 in
set_option maxRecDepth 100000 in
theorem walk (a0 : Int) (w0 : (Lit.int .u8 a0).wf = true) (W : World) :
    Calls Try.prog 5 #[.int .u8 a0] W fun e w' => e = .returned (.bool true) ∧ Below W.heap.size W w' := by
  have b0 := bounds_u8 w0
  clear w0
  obtain ⟨F, rfl⟩ := Int.eq_ofNat_of_zero_le b0.1
  have h1 : F ≤ 255 := by omega
  clear b0
  have hR := Own.start W
  go_enter Try.func5, Try.ntmps5
  go_wp2_with (first
    | (apply wpList_make hR zSeen; exact rfl; clear hR; intro g w hR; simp only [List.set_cons_succ, List.set_cons_zero])
    | (apply wpList_make hR zRow; exact rfl; clear hR; intro g w hR; simp only [List.set_cons_succ, List.set_cons_zero])
    | (apply wpList_built; exact rfl; exact rfl; exact bSeen0; (simp only [List.set_cons_succ, List.set_cons_zero]; exact rfl))
    | (apply wpList_put hR tSeen; exact rfl; exact rfl; exact rfl; (focus (repeat (first | apply List.Mem.head | apply List.Mem.tail))); apply put_seens; exact seen_size _; (rw [seen_size]; omega); apply one_seen; (focus (repeat (first | apply Upd.head | apply Upd.tail))); clear hR; intro w hR)
    | (apply wpList_put hR tRow; exact rfl; exact rfl; exact rfl; (focus (repeat (first | apply List.Mem.head | apply List.Mem.tail))); apply put_row; exact rfl; simp [encRow]; apply one_row; (focus (repeat (first | apply Upd.head | apply Upd.tail))); clear hR; intro w hR)
    | (apply wpList_one hR tInt; exact rfl; exact rfl; (focus (repeat (first | apply List.Mem.head | apply List.Mem.tail))); exact rfl; (simp only [List.set_cons_succ, List.set_cons_zero]; exact rfl))
    | (apply wpList_put1 hR tBool; exact rfl; exact rfl; exact rfl; (focus (repeat (first | apply List.Mem.head | apply List.Mem.tail))); apply put_seen; omega; (rw [seen_size]; omega); exact rfl; (focus (repeat (first | apply Upd.head | apply Upd.tail))); clear hR; intro w hR))
  go_loopw [3, 5] (fun n i wr => ∃ (I : Nat) (f : Nat → Bool), I ≤ 256 ∧ n = .int .i64 (sumF (roundF F) I : Nat) ∧ i = .int .i64 I ∧ Seen F I 0 f ∧ Own W wr [(g, encSeen f, 32)]) (fun _ i _ => 256 - (intOf i).toNat)
  case atStart => exact ⟨0, _, by omega, rfl, rfl, Seen.start F _, hR⟩
  case round =>
    clear hR
    obtain ⟨I, f, hI, rfl, rfl, hseen, hR⟩ := hrel
    have HSN := Lib.hid hseen
    clear hseen
    by_cases hlt : I < 256
    · obtain ⟨S, hS⟩ : ∃ S, S = sumF (roundF F) I := ⟨_, rfl⟩
      have hS2 : S ≤ 2048 := by rw [hS]; have := sumF_le (roundF F) (roundF_le F) I; omega
      rw [← hS]
      have HS := Lib.hid hS
      clear hS
      have hd : decide ((I : Int) < 256) = true := decide_eq_true (by omega)
      obtain ⟨P, hP⟩ : ∃ P, P = opAt F I := ⟨_, rfl⟩
      have hP2 : P < 256 := by rw [hP]; exact opAt_lt F I
      have HP := Lib.hid hP
      clear hP
      go_upto_region 5 with fail
      go_cut [6] (fun v wx => v = .int .u8 (P : Nat) ∧ wr = wx)
      case first =>
        go_wp2_with fail
        go_meet
        exact ⟨by rw [HP.out, show ((opAt F I : Nat) : Int) = ((I : Int) + F) % 256 by unfold opAt; omega], rfl⟩
      case rest =>
      obtain ⟨rfl, rfl⟩ := hcut
      go_wp2_with fail
      go_loopw [3, 7] (fun n k wr => ∃ (K : Nat) (f : Nat → Bool), K ≤ 8 ∧ n = .int .i64 ((S + cntK P K : Nat) : Int) ∧ k = .int .i64 K ∧ Seen F I K f ∧ Own W wr [(g, encSeen f, 32)]) (fun _ k _ => 8 - (intOf k).toNat)
      case atStart => exact ⟨0, f, by omega, rfl, rfl, HSN.out, hR⟩
      case round =>
        clear hR HSN
        obtain ⟨K, f, hK, rfl, rfl, hseen, hR⟩ := hrel
        have HSN := Lib.hid hseen
        clear hseen
        by_cases hk : K < 8
        · have H7 := Lib.hid (and7_small K hk)
          obtain ⟨T, hT⟩ : ∃ T, T = S + cntK P K := ⟨_, rfl⟩
          have hT2 : T ≤ 2056 := by rw [hT]; have := cntK_le P K; omega
          rw [← hT]
          have HT := Lib.hid hT
          clear hT
          obtain ⟨⟨rn, ra, rb, rm, ro⟩, hr⟩ : ∃ r, r = ofR P K := ⟨_, rfl⟩
          have hways := cntd_ways P K
          have hname := fact_name P K hP2 hk
          rw [← hr] at hways hname
          have HR := Lib.hid hr
          clear hr
          rcases hways with ⟨c1, cc⟩ | ⟨c1, c2, cc⟩ | ⟨c1, c2, c3, cc⟩ | ⟨c1, c2, c3, cc⟩
          case inl =>
            simp only at c1
            subst c1
            have CC := Lib.hid cc
            clear cc hname
            go_wp2_with (first
              | (go_at_call 6; refine (of_k P K K _ (by omega) (by omega) H7.out).mono ?_; rw [← HR.out]; rintro e w' ⟨rfl, hb⟩; replace hR := hR.grow hb; clear hb)
                  | (apply wpList_make hR zSeen; exact rfl; clear hR; intro g w hR; simp only [List.set_cons_succ, List.set_cons_zero])
                  | (apply wpList_make hR zRow; exact rfl; clear hR; intro g w hR; simp only [List.set_cons_succ, List.set_cons_zero])
                  | (apply wpList_built; exact rfl; exact rfl; exact bSeen0; (simp only [List.set_cons_succ, List.set_cons_zero]; exact rfl))
                  | (apply wpList_put hR tSeen; exact rfl; exact rfl; exact rfl; (focus (repeat (first | apply List.Mem.head | apply List.Mem.tail))); apply put_seens; exact seen_size _; (rw [seen_size]; omega); apply one_seen; (focus (repeat (first | apply Upd.head | apply Upd.tail))); clear hR; intro w hR)
                  | (apply wpList_put hR tRow; exact rfl; exact rfl; exact rfl; (focus (repeat (first | apply List.Mem.head | apply List.Mem.tail))); apply put_row; exact rfl; simp [encRow]; apply one_row; (focus (repeat (first | apply Upd.head | apply Upd.tail))); clear hR; intro w hR)
                  | (apply wpList_one hR tInt; exact rfl; exact rfl; (focus (repeat (first | apply List.Mem.head | apply List.Mem.tail))); exact rfl; (simp only [List.set_cons_succ, List.set_cons_zero]; exact rfl))
                  | (apply wpList_put1 hR tBool; exact rfl; exact rfl; exact rfl; (focus (repeat (first | apply List.Mem.head | apply List.Mem.tail))); apply put_seen; omega; (rw [seen_size]; omega); exact rfl; (focus (repeat (first | apply Upd.head | apply Upd.tail))); clear hR; intro w hR))
            go_roundw
            case rel => exact ⟨K + 1, f, by omega, by rw [show cntK P (K + 1) = cntK P K + (bif cntd P K then 1 else 0) from rfl, CC.out, ← Nat.add_assoc, ← HT.out]; rfl, by go_num, HSN.out.skip (by rw [← HP.out]; exact CC.out), hR.tail⟩
            case measure => simp [intOf]; omega
          case inr.inr.inr =>
            simp only at c1
            subst c1
            have CC := Lib.hid cc
            clear cc hname
            go_wp2_with (first
              | (go_at_call 6; refine (of_k P K K _ (by omega) (by omega) H7.out).mono ?_; rw [← HR.out]; rintro e w' ⟨rfl, hb⟩; replace hR := hR.grow hb; clear hb)
              | (go_at_call 9; refine (grp_any _ _).mono ?_; rintro e w' ⟨rfl, rfl⟩)
                  | (apply wpList_make hR zSeen; exact rfl; clear hR; intro g w hR; simp only [List.set_cons_succ, List.set_cons_zero])
                  | (apply wpList_make hR zRow; exact rfl; clear hR; intro g w hR; simp only [List.set_cons_succ, List.set_cons_zero])
                  | (apply wpList_built; exact rfl; exact rfl; exact bSeen0; (simp only [List.set_cons_succ, List.set_cons_zero]; exact rfl))
                  | (apply wpList_put hR tSeen; exact rfl; exact rfl; exact rfl; (focus (repeat (first | apply List.Mem.head | apply List.Mem.tail))); apply put_seens; exact seen_size _; (rw [seen_size]; omega); apply one_seen; (focus (repeat (first | apply Upd.head | apply Upd.tail))); clear hR; intro w hR)
                  | (apply wpList_put hR tRow; exact rfl; exact rfl; exact rfl; (focus (repeat (first | apply List.Mem.head | apply List.Mem.tail))); apply put_row; exact rfl; simp [encRow]; apply one_row; (focus (repeat (first | apply Upd.head | apply Upd.tail))); clear hR; intro w hR)
                  | (apply wpList_one hR tInt; exact rfl; exact rfl; (focus (repeat (first | apply List.Mem.head | apply List.Mem.tail))); exact rfl; (simp only [List.set_cons_succ, List.set_cons_zero]; exact rfl))
                  | (apply wpList_put1 hR tBool; exact rfl; exact rfl; exact rfl; (focus (repeat (first | apply List.Mem.head | apply List.Mem.tail))); apply put_seen; omega; (rw [seen_size]; omega); exact rfl; (focus (repeat (first | apply Upd.head | apply Upd.tail))); clear hR; intro w hR))
            go_roundw
            case rel => exact ⟨K + 1, f, by omega, by rw [show cntK P (K + 1) = cntK P K + (bif cntd P K then 1 else 0) from rfl, CC.out, ← Nat.add_assoc, ← HT.out]; rfl, by go_num, HSN.out.skip (by rw [← HP.out]; exact CC.out), hR.tail⟩
            case measure => simp [intOf]; omega
          all_goals
            simp only at c1
            subst c1
            obtain ⟨q, hq, hq1, hq2⟩ := hname cc
            simp only at hq
            subst hq
            have CC := Lib.hid cc
            clear cc hname
            have d1 : decide ((q : Int) < 1) = false := decide_eq_false (by omega)
            have d2 : decide ((95 : Int) < (q : Int)) = false := decide_eq_false (by omega)
            go_wp2_with (first
              | (go_at_call 6; refine (of_k P K K _ (by omega) (by omega) H7.out).mono ?_; rw [← HR.out]; rintro e w' ⟨rfl, hb⟩; replace hR := hR.grow hb; clear hb)
              | (go_at_call 9; refine (grp_any _ _).mono ?_; rintro e w' ⟨rfl, rfl⟩)
                  | (apply wpList_make hR zSeen; exact rfl; clear hR; intro g w hR; simp only [List.set_cons_succ, List.set_cons_zero])
                  | (apply wpList_make hR zRow; exact rfl; clear hR; intro g w hR; simp only [List.set_cons_succ, List.set_cons_zero])
                  | (apply wpList_built; exact rfl; exact rfl; exact bSeen0; (simp only [List.set_cons_succ, List.set_cons_zero]; exact rfl))
                  | (apply wpList_put hR tSeen; exact rfl; exact rfl; exact rfl; (focus (repeat (first | apply List.Mem.head | apply List.Mem.tail))); apply put_seens; exact seen_size _; (rw [seen_size]; omega); apply one_seen; (focus (repeat (first | apply Upd.head | apply Upd.tail))); clear hR; intro w hR)
                  | (apply wpList_put hR tRow; exact rfl; exact rfl; exact rfl; (focus (repeat (first | apply List.Mem.head | apply List.Mem.tail))); apply put_row; exact rfl; simp [encRow]; apply one_row; (focus (repeat (first | apply Upd.head | apply Upd.tail))); clear hR; intro w hR)
                  | (apply wpList_one hR tInt; exact rfl; exact rfl; (focus (repeat (first | apply List.Mem.head | apply List.Mem.tail))); exact rfl; (simp only [List.set_cons_succ, List.set_cons_zero]; exact rfl))
                  | (apply wpList_put1 hR tBool; exact rfl; exact rfl; exact rfl; (focus (repeat (first | apply List.Mem.head | apply List.Mem.tail))); apply put_seen; omega; (rw [seen_size]; omega); exact rfl; (focus (repeat (first | apply Upd.head | apply Upd.tail))); clear hR; intro w hR))
            go_roundw
            case rel => exact ⟨K + 1, mark f q, by omega, by rw [show cntK P (K + 1) = cntK P K + (bif cntd P K then 1 else 0) from rfl, CC.out, ← Nat.add_assoc, ← HT.out]; go_num, by go_num, HSN.out.mark (by rw [← HP.out, ← HR.out]), hR.tail⟩
            case measure => simp [intOf]; omega
        · have HK : Hid (S + cntK P K = sumF (roundF F) (I + 1)) := by
            rw [show K = 8 from by omega, HS.out, HP.out]; rfl
          obtain ⟨T, hT⟩ : ∃ T, T = S + cntK P K := ⟨_, rfl⟩
          have hT2 : T ≤ 2056 := by rw [hT]; have := cntK_le P K; omega
          rw [← hT] at HK
          rw [← hT]
          clear hT
          go_wp2_with fail
          go_roundw
          case rel => exact ⟨I + 1, f, by omega, by rw [HK.out], by go_num, HSN.out.next (by omega), hR⟩
          case measure => simp [intOf]; omega
    · have HT := Lib.hid (total_round F (by omega) (n := I) (by omega))
      have HA := Lib.hid (HSN.out.all (by omega) (by omega))
      obtain ⟨T, hT⟩ : ∃ T, T = total := ⟨_, rfl⟩
      have hT2 : T ≤ 2048 := by rw [hT]; exact sumF_le cntG (fun i => cntK_le i 8) 256
      rw [HT.out, ← hT]
      have HTT := Lib.hid hT
      clear hT HSN
      go_wp2_with fail
      go_loopw [10] (fun j wr => ∃ J : Nat, 1 ≤ J ∧ J ≤ 96 ∧ j = .int .i64 J ∧ Own W wr [(g, encSeen f, 32)]) (fun j _ => 96 - (intOf j).toNat)
      case atStart => exact ⟨1, by omega, by omega, rfl, hR⟩
      case round =>
        clear hR
        obtain ⟨J, hJ1, hJ2, rfl, hR⟩ := hrel
        by_cases hj : J ≤ 95
        · have HSV : Hid ((encSeen f).toList[J]? = some (.bool true)) := by
            rw [← HA.out J hJ1 hj]; exact seen_at f J (by omega)
          go_wp2_with (first
            | (apply wpList_one hR tBool; exact rfl; exact rfl; (focus (repeat (first | apply List.Mem.head | apply List.Mem.tail))); exact HSV.out; (simp only [List.set_cons_succ, List.set_cons_zero]; exact rfl)))
          go_roundw
          case rel => exact ⟨J + 1, by omega, by omega, by go_num, hR⟩
          case measure => simp [intOf]; omega
        · go_wp2_with fail
          refine (awake_any _).mono ?_; rintro e w' ⟨rfl, hb⟩
          replace hR := hR.grow hb
          clear hb
          go_wp2_with fail
          refine (count_any _).mono ?_; rw [← HTT.out]; rintro e w' ⟨rfl, hb⟩
          replace hR := hR.grow hb
          clear hb
          go_wp2_with fail
          go_ret
          exact ⟨rfl, hR.below⟩

set_option maxRecDepth 100000 in
theorem lifted (os : Os) (started : os.Started) (H : Type) (enc : TypeId × Value → H) :
    ReturnsInHanded {} Try.checked os 5 .any (Rows.isaAllSpec.pre6 enc Try.prog Try.f5 Rows.isaAllRow.domain false) (Rows.isaAllSpec.post enc Try.prog Try.f5 false true false false) := by
  refine returnsInHanded_of_change (C := Try.checked) own started (by kernel_rfl) Try.func5
    (ChangeSpec.witness6 (enc := enc) (C := Try.checked) false ⟨#[], #[.int .u8 0], []⟩ 8 (by kernel_rfl) (by kernel_rfl) (by kernel_rfl) (by kernel_rfl)) ?_
  intro W base args ds gs before hval0 hW hcnd _
  have hval : ∀ (j : Nat) t v, Try.f5.params[j]? = some t → args[j]? = some v → Value.okWide Try.prog W .any base t v := hval0
  have hW' := hW
  obtain ⟨p, q, hA0, hV, rfl, hfz, hnd⟩ := hW
  have hA : DataW.TrodAll enc Try.prog W 0 (fun _ => true) true Try.f5.params.toList args.toList ds p := hA0
  rw [Try.params5] at hA hval
  obtain ⟨v0, vs0, d0, ds0, p0, q0, hargs, rfl, rfl, h0, r0⟩ := trodAll_cons hA
  obtain ⟨rfl, rfl, rfl⟩ := trodAll_nil r0
  obtain rfl : args = #[v0] := by cases args; simp_all
  obtain ⟨rfl, rfl⟩ := trodVars_none hV
  obtain ⟨a0, rfl, rfl, rfl, w0⟩ := open_int Try.underlying5 (hval 0 5 v0 rfl rfl) h0
  clear hA0 hval0
  refine (walk a0 w0 W).mono fun e W' ⟨he, bel⟩ => ?_
  subst he
  exact ⟨_, rfl, _, _, _, [], _, [], hW', trodAll_mk1 (shut_bool Try.underlying4 _), (trodAll_cons_mk (shut_int Try.underlying5 w0) trodAll_mk0), rfl, bel.frame _, fun h => by cases h⟩

theorem over : Rows.isaAllRow.holds Try.pinned (OpenSpec.ofChange Rows.isaAllSpec) :=
  OpenClaim.holds_of_wide 5 Try.f5 rfl rfl rfl rfl rfl rfl rfl ⟨rfl, rfl, rfl, rfl, rfl⟩ rfl rfl rfl rfl rfl (by kernel_rfl) Try.func5 (by kernel_rfl)
    (of_decide_eq_true (by kernel_rfl)) (by unfold Func.isWrapper; first | (rw [if_pos (by decide +kernel)]; kernel_rfl) | (rw [if_neg (by decide +kernel)]; exact ⟨rfl, rfl⟩))
    (fun os started H enc _ => lifted os started H enc)

theorem proved : Rows.IsaAllSaid := over
#print axioms proved
end Go.Proofs.Ytbmngikhhnnhbaa.isaAll
