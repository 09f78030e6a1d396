









/- The contract of fixup.Record. No statement of the seat is proved here. -/
import Derived.Test.YtimciiaajlfkoaaFixB
namespace Go.Proofs.Ytimciiaajlfkoaa
open Go.ChangeShapes Go.WideShapes Go.ChangeAt Go.RowKit
set_option linter.unusedVariables false
set_option linter.unusedSimpArgs false

theorem putFs_more {X : List FixZ} {k : Nat} {f : FixZ} (h : X[k]? = some f) : (X.take (k + 1)).flatMap putF = (X.take k).flatMap putF ++ putF f := by
  rw [List.take_add_one, h, List.flatMap_append]; simp
set_option maxHeartbeats 2000000 in
theorem fixRecord_any {w0 : World} {v : Value} {X : List FixZ} (n : Int) (h : RowsAt 8 cellsF w0 v X) (hm : ∀ f ∈ X, MayF f n ∧ f.d ≤ 65535) (hl : X.length ≤ 1000) :
    Calls Try.prog 15 #[v] w0 fun e w' => RetB w0 w' (fun v => .agg #[.int .u8 156, v]) e (X.flatMap putF) := by
  have hR := Own.start w0
  go_enter Try.func15, Try.ntmps15
  go_wp2_with (first
    | ((with_reducible apply wpList_make hR zRec); exact rfl; clear hR; intro g w hR; simp only [List.set_cons_succ, List.set_cons_zero])
    | ((with_reducible apply q_ls hR); exact rfl; (with_reducible apply t_lenRd Try.underlying34); (apply EvC.now; exact rfl); exact h; (simp only [List.set_cons_succ, List.set_cons_zero]; exact rfl); clear hR; intro w hR))
  go_loopw [3, 8] (fun b i wr => ∃ (k : Nat) (sx : List RowT), i = .int .i64 k ∧ k ≤ X.length ∧ Sl 5 1 sx b ((X.take k).flatMap putF).length (cellsB ((X.take k).flatMap putF)) ∧ Own w0 wr (sx ++ [(g, #[.int .u8 0, .slice none 0 0], 36)])) (fun _ i _ => X.length - (intOf i).toNat)
  case atStart => exact ⟨0, [], rfl, Nat.zero_le _, Sl.nil _ _, hR⟩
  case round =>
    clear hR
    obtain ⟨k, s0, rfl, hk, hS, hR⟩ := hrel
    by_cases hkl : k < X.length
    · obtain ⟨f, hf⟩ : ∃ f, X[k]? = some f := ⟨_, List.getElem?_eq_getElem hkl⟩
      have hfm := hm f (List.mem_of_getElem? hf)
      have hel := h.el cellsF_len hf
      obtain ⟨ad, cap, hve0, hcell⟩ := hel
      have HM := Lib.hid (putFs_more hf)
      have HPU := Lib.hid (fun w => fixPut_any f n w hfm.1 hfm.2)
      have hpl := (putF_len f).2
      have hgl := putFs_len (X.take k)
      rw [List.length_take] at hgl
      have hve := Lib.hid hve0
      clear hve0
      have HEL := Lib.hid (show ∀ (w : World) (r : List RowT), Own w0 w r → ∀ jj u, (encF f).toList[jj]? = some u → w.cell? ((ad.add ((k : Int).toNat * 8)).add jj) = some u from fun w r hC => by
        rw [Int.toNat_natCast]
        rw [hve.out] at h
        exact (h.own hC).cell cellsF_len hf)
      obtain ⟨z, hz⟩ : ∃ z, (X.take k).flatMap putF = z := ⟨_, rfl⟩
      rw [hz] at hS HM hgl
      have hzl : z.length ≤ 9000 := by omega
      clear hcell hf hgl hz
      go_wp2_with (first
    | ((with_reducible apply q_ls hR); exact rfl; (with_reducible apply t_six Try.underlying34 iFix); (apply EvC.now; exact congrArg some hve.out); (apply EvC.now; exact rfl); (constructor <;> omega); (simp only [List.set_cons_succ, List.set_cons_zero]; exact rfl); clear hR; intro w hR)
    | ((with_reducible apply q_ls hR); exact rfl; (with_reducible apply t_manyW tFix); (apply EvC.now; exact rfl); (exact fun w hC => HEL.out w _ hC); exact rfl; (simp only [List.set_cons_succ, List.set_cons_zero]; exact rfl); clear hR; intro w hR)
    | ((with_reducible apply wpList_make hR zFix); exact rfl; clear hR; intro g4 w hR; simp only [List.set_cons_succ, List.set_cons_zero])
    | ((with_reducible apply wpList_put hR tFix); exact rfl; exact rfl; exact rfl; (focus (repeat (first | apply List.Mem.head | apply List.Mem.tail | apply List.mem_append_right))); exact put_fix _ _; exact rfl; (simp [encF]); exact one_fix _; (focus (repeat (first | apply Upd.head | apply Upd.tail | apply Upd.skipC))); clear hR; intro w hR; replace hR := hR.les (Les.tail Les.head))
    | (go_at_call 11; refine (HPU.out _).mono ?_; rintro e w' ⟨s1, v1, rfl, hO, hS1⟩; replace hR := hR.join hO; clear hO)
    | ((with_reducible apply wpList_appG hR tBytesI); exact rfl; exact rfl; exact rfl; exact hS; (exact Les.skip _ Les.head); (exact (hS1 _ _ _ hR (fun r hr => List.mem_append_left _ hr)).rd); (simp only [maxLen]; omega); omega; clear hR hS; intro sx v w hR hS; replace hR := hR.drop (List.Sublist.append (List.Sublist.refl _) (List.sublist_append_right _ _)); simp only [List.set_cons_succ, List.set_cons_zero])
    | ((with_reducible apply q_ls hR); exact rfl; ((with_reducible first | apply t_addr (fRec _ (by decide)) | apply t_addr (fFix _ (by decide)) | apply t_one tByteR | apply t_one tSlR | apply t_one tIntR | apply t_one tWordF | apply t_one tBoolF | apply t_part tFix) <;> (first | (apply EvC.gv; exact rfl; (with_reducible first | exact Imp.refl _ | (apply Imp.left; exact Imp.refl _) | (apply Imp.right; exact Imp.refl _) | (apply Imp.left; apply Imp.left; exact Imp.refl _))) | (apply EvC.now; exact rfl) | exact rfl | (with_reducible exact EvAll.nil) | (focus (repeat (first | apply EvAll.cons | exact EvAll.nil | (apply EvC.gv; exact rfl; (with_reducible first | exact Imp.refl _ | (apply Imp.left; exact Imp.refl _) | (apply Imp.right; exact Imp.refl _) | (apply Imp.left; apply Imp.left; exact Imp.refl _))) | (apply EvC.now; exact rfl))); done) | exact ext_fix _ | (focus (repeat (first | apply List.Mem.head | apply List.Mem.tail | apply List.mem_append_right))))); (simp only [List.set_cons_succ, List.set_cons_zero]; exact rfl); clear hR; intro w hR))
      go_round
      case rel =>
        refine ⟨k + 1, sx, rfl, by omega, ?_, hR.drop (List.Sublist.append (List.Sublist.refl _) (List.sublist_cons_self _ _))⟩
        rw [HM.out, List.length_append, cellsB_append]
        exact hS
      case measure => simp [intOf]; omega
    · have hke : X.take k = X := List.take_of_length_le (by omega)
      rw [hke] at hS
      have hok : bytesOk (X.flatMap putF) := putFs_ok (fun f hf => (hm f hf).1)
      go_wp2_with (first
    | ((with_reducible apply wpList_built); exact rfl; exact rfl; exact bRecC _ hS; (simp only [List.set_cons_succ, List.set_cons_zero]; exact rfl))
    | ((with_reducible apply wpList_put hR tRec); exact rfl; exact rfl; exact rfl; (focus (repeat (first | apply List.Mem.head | apply List.Mem.tail | apply List.mem_append_right))); exact put_rec _ _ _ _; exact rfl; simp; exact one_recC _ hS; (focus (repeat (first | apply Upd.head | apply Upd.tail | apply Upd.skipC))); clear hR; intro w hR))
      (try simp only [Exit.inBlock, Exit.then])
      exact post_row hR rfl (by rfl) (by (focus (repeat (first | apply List.Mem.head | apply List.Mem.tail | apply List.mem_append_right)))) Try.underlying36 rfl iRec (by rfl) (by rfl) ⟨s0, _, rfl, hR.drop (List.sublist_append_left _ _), hS.srcR hok⟩
end Go.Proofs.Ytimciiaajlfkoaa
