/- The law IterSpreads (a block spreads to all of its bytes, and its own bytes are the document's) returns true whatever the arguments, and each argument reads afterwards as before. There is no condition on the arguments. -/
import Derived.Test.YtalgadinoaeihaaRows
import Derived.Test.YtalgadinoaeihaaLaw24
import Derived.WalkKit
import Derived.ProofKit
import Derived.OpenShut
import Derived.ShutString
import Derived.ChangeOld
import Derived.Below
namespace Go.Proofs.Ytalgadinoaeihaa.iterSpreads
open Go.ChangeShapes Go.WideShapes Go.ChangeAt Go.RowKit
open Go.ChangeMaps (open_string shut_string)
set_option linter.unusedVariables false
set_option linter.unusedSimpArgs false

theorem own : ownKnob Try.prog.godebug = none := by kernel_rfl
theorem laidOut : laidOutB Try.prog = true := by kernel_rfl










set_option maxHeartbeats 8000000 in
set_option maxRecDepth 100000 in
theorem walk {w0 : World} (v0 : Value) (hI : BlkIn w0 v0) (deep : Int) (hn : (Lit.int .i64 deep).wf = true) (wi : World) :
    Calls Try.prog 3 #[v0, .int .i64 deep] w0 fun e w' => e = .returned (.bool true) ∧ Below w0.heap.size w0 w' := by
  clear wi
  obtain ⟨d, z, rfl, hB⟩ := hI
  have hR := Own.start w0
  obtain ⟨n, hne⟩ : ∃ n : Nat, deep % 4 = n := Int.eq_ofNat_of_zero_le (by omega)
  have hn3 : n ≤ 3 := by omega
  have HA := Lib.hid (show bits .and .i64 deep 3 = (n : Int) from (i64_mask deep 2 3 (by decide) (by decide)).trans hne)
  have HA1 := Lib.hid (show IntKind.i64.wrap ((n : Int) + 1) = ((n + 1 : Nat) : Int) by rw [IntWalk.i64_in _ (by omega)]; omega)
  have HN := Lib.hid (r24near_any n hn3 d z)
  have hsm := near_sm n z (hB.okB n)
  have hmay := may_up (show n + 1 ≤ 8 by omega) (near_may n z)
  have hsl := sm_len (n + 1) _ hsm
  have hcap := capB_most (show n + 1 ≤ 4 by omega)
  have hpl := sm_put (n + 1) _ hsm
  have hcapP := capP_most (show n + 1 ≤ 4 by omega)
  obtain ⟨X, hX⟩ : ∃ X, nearB n z = X := ⟨_, rfl⟩
  rw [hX] at HN hsm hmay hsl hpl
  clear hne hX
  go_enter Try.func3, Try.ntmps3
  go_upto_region 1 with (first
    | ((with_reducible apply wpList_box hR); exact rfl; exact rfl; clear hR; intro g2 w hR; simp only [List.set_cons_succ, List.set_cons_zero]))
  go_upto_region 2 with (first
    | ((with_reducible apply q_ls hR); exact rfl; (with_reducible apply t_numE); (apply EvC.now; exact rfl); (apply EvC.now; exact rfl); exact rfl; (with_reducible first | exact HA.out | exact HA1.out); (simp only [List.set_cons_succ, List.set_cons_zero]; exact rfl); clear hR; intro w hR)
    | (go_at_call 6; refine (HN.out _ (hB.own hR)).mono ?_; rintro e w' ⟨s, d1, rfl, hO, hBR⟩; replace hR := hR.join hO; have hI1 := (hBR _ _ _ hO fun _ h => h).isS; clear hO)
    | ((with_reducible apply wpList_make hR zBlk); exact rfl; clear hR; intro g5 w hR; simp only [List.set_cons_succ, List.set_cons_zero])
    | ((with_reducible apply wpList_put hR tBlk); exact rfl; exact rfl; exact rfl; (first | exact hm5 | (focus (repeat (first | apply List.Mem.head | apply List.Mem.tail | apply List.mem_append_right)))); exact put_blk _ rfl _ _ _; exact rfl; simp [encK]; exact one_blk _ hI1.1 hI1.2; (focus (repeat (first | apply Upd.head | apply Upd.tail))); clear hR; intro w hR)
    | ((with_reducible apply q_ls hR); exact rfl; ((with_reducible first | apply t_addr (fRec _ (by decide)) | apply t_addr (fBlk _ (by decide)) | apply t_one tByteR | apply t_one tSlR | apply t_one tIntR | apply t_one tBlks | apply t_part tBlk) <;> (first | (apply EvC.gv; exact rfl; (with_reducible first | exact Imp.refl _ | (apply Imp.left; exact Imp.refl _) | (apply Imp.right; exact Imp.refl _) | (apply Imp.left; apply Imp.left; exact Imp.refl _))) | (apply EvC.now; exact rfl) | exact rfl | (with_reducible exact EvAll.nil) | (focus (repeat (first | apply EvAll.cons | exact EvAll.nil | (apply EvC.gv; exact rfl; (with_reducible first | exact Imp.refl _ | (apply Imp.left; exact Imp.refl _) | (apply Imp.right; exact Imp.refl _) | (apply Imp.left; apply Imp.left; exact Imp.refl _))) | (apply EvC.now; exact rfl))); done) | exact ext_blk _ _ _ | (first | exact hm5 | (focus (repeat (first | apply List.Mem.head | apply List.Mem.tail | apply List.mem_append_right)))))); (simp only [List.set_cons_succ, List.set_cons_zero]; exact rfl); clear hR; intro w hR))
  have hok : okSpread X = true := by unfold okSpread; rw [hmay, Bool.true_and, decide_eq_true_eq]; omega
  have hfit : fitK 17 X := fit_up (show 8 ≤ 17 by decide) (may_fit hmay)
  have hdp := fit_dp hfit
  obtain ⟨S, hS⟩ : ∃ S, spreadB X = S := ⟨_, rfl⟩
  obtain ⟨B, hBe⟩ : ∃ B, putB X = B := ⟨_, rfl⟩
  have HSP := Lib.hid (fun w (h : BlkAt w d1 X) => r24spread_any (n + 1) X (by omega) hsm d1 w h)
  have HREF := Lib.hid (fun w (h : BlkAt w d1 X) => r24put_any (n + 1) X (by omega) hsm d1 w h)
  have HMAY := Lib.hid (fun w (h : BlkAt w d1 X) => itrMay_any h)
  have HSIZE := Lib.hid (fun w (h : BlkAt w d1 X) => itrSize_any h hmay)
  have HYES := Lib.hid (fun w (h : BlkAt w d1 X) => itrSpread_yes h hdp (by omega) hok)
  have HPUT := Lib.hid (fun w (h : BlkAt w d1 X) => itrPut_any h hfit (by omega))
  have hmin : min S.length 65537 = S.length := by rw [← hS]; omega
  rw [hS] at HSP HSIZE HYES
  rw [hmin] at HSIZE
  rw [hmay] at HMAY
  rw [hBe] at HREF HPUT
  clear hsm hsl hpl hcap hcapP hok hfit hdp hmin hS hBe hmay
  have hBx := hBR
  clear hBR
  go_upto_region 3 with (first
    | (go_at_call 7; refine (HSP.out _ (hBx _ _ _ hR (fun r h => .tail _ (List.mem_append_left _ h)))).mono ?_; rintro e w' ⟨rfl, hb⟩; replace hR := hR.grow hb; clear hb)
    | ((with_reducible apply q_ls hR); exact rfl; ((with_reducible first | apply t_addr (fRec _ (by decide)) | apply t_addr (fBlk _ (by decide)) | apply t_one tByteR | apply t_one tSlR | apply t_one tIntR | apply t_one tBlks | apply t_part tBlk) <;> (first | (apply EvC.gv; exact rfl; (with_reducible first | exact Imp.refl _ | (apply Imp.left; exact Imp.refl _) | (apply Imp.right; exact Imp.refl _) | (apply Imp.left; apply Imp.left; exact Imp.refl _))) | (apply EvC.now; exact rfl) | exact rfl | (with_reducible exact EvAll.nil) | (focus (repeat (first | apply EvAll.cons | exact EvAll.nil | (apply EvC.gv; exact rfl; (with_reducible first | exact Imp.refl _ | (apply Imp.left; exact Imp.refl _) | (apply Imp.right; exact Imp.refl _) | (apply Imp.left; apply Imp.left; exact Imp.refl _))) | (apply EvC.now; exact rfl))); done) | exact ext_blk _ _ _ | (first | exact hm5 | (focus (repeat (first | apply List.Mem.head | apply List.Mem.tail | apply List.mem_append_right)))))); (simp only [List.set_cons_succ, List.set_cons_zero]; exact rfl); clear hR; intro w hR))
  go_wp2_with (first
    | ((with_reducible apply q_ls hR); exact rfl; ((with_reducible first | apply t_addr (fRec _ (by decide)) | apply t_addr (fBlk _ (by decide)) | apply t_one tByteR | apply t_one tSlR | apply t_one tIntR | apply t_one tBlks | apply t_part tBlk) <;> (first | (apply EvC.gv; exact rfl; (with_reducible first | exact Imp.refl _ | (apply Imp.left; exact Imp.refl _) | (apply Imp.right; exact Imp.refl _) | (apply Imp.left; apply Imp.left; exact Imp.refl _))) | (apply EvC.now; exact rfl) | exact rfl | (with_reducible exact EvAll.nil) | (focus (repeat (first | apply EvAll.cons | exact EvAll.nil | (apply EvC.gv; exact rfl; (with_reducible first | exact Imp.refl _ | (apply Imp.left; exact Imp.refl _) | (apply Imp.right; exact Imp.refl _) | (apply Imp.left; apply Imp.left; exact Imp.refl _))) | (apply EvC.now; exact rfl))); done) | exact ext_blk _ _ _ | (first | exact hm5 | (focus (repeat (first | apply List.Mem.head | apply List.Mem.tail | apply List.mem_append_right)))))); (simp only [List.set_cons_succ, List.set_cons_zero]; exact rfl); clear hR; intro w hR))
  refine (HYES.out _ (hBx _ _ _ hR (fun r h => .tail _ (List.mem_append_left _ h)))).mono ?_
  rintro e w1 ⟨sr, vr, rfl, hO, hVs⟩
  replace hR := hR.join hO
  clear hO HYES HSP
  go_upto_region 4 with fail
  have hsx : ∀ r ∈ s, r ∈ sr ++ ((g5, encK d1.t d1.v d1.x, 25) :: (s ++ [(g2, encK d.t d.v d.x, 25)])) := fun r h => List.mem_append_right _ (.tail _ (List.mem_append_left _ h))
  have hsr : ∀ r ∈ sr, r ∈ sr ++ ((g5, encK d1.t d1.v d1.x, 25) :: (s ++ [(g2, encK d.t d.v d.x, 25)])) := fun r h => List.mem_append_left _ h
  obtain ⟨L, hL⟩ : ∃ L, sr ++ ((g5, encK d1.t d1.v d1.x, 25) :: (s ++ [(g2, encK d.t d.v d.x, 25)])) = L := ⟨_, rfl⟩
  have hm5 : (g5, encK d1.t d1.v d1.x, 25) ∈ L := by rw [← hL]; exact List.mem_append_right _ (.head _)
  rw [hL] at hsx hsr hR
  clear hL
  refine wp_region_some hR L (List.Sublist.refl _) [0, 1, 2, 3, 4, 5, 6, 7, 8, 9, 10, 11, 12, 13, 14, 15, 16, 17, 18, 19, 20, 21, 22, 25] 6 (by kernel_rfl) (by kernel_rfl) (by kernel_rfl) rfl ?_
  clear hR; intro hR
  repeat (refine wpT_step rfl ?_; first
    | ((with_reducible apply q_kn); exact rfl; (with_reducible apply t_call Try.call9); (first | (apply EvC.gv; exact rfl; (with_reducible first | exact Imp.refl _ | (apply Imp.left; exact Imp.refl _) | (apply Imp.right; exact Imp.refl _) | (apply Imp.left; apply Imp.left; exact Imp.refl _))) | (apply EvC.now; exact rfl) | exact rfl | (with_reducible exact EvAll.nil) | (focus (repeat (first | apply EvAll.cons | exact EvAll.nil | (apply EvC.gv; exact rfl; (with_reducible first | exact Imp.refl _ | (apply Imp.left; exact Imp.refl _) | (apply Imp.right; exact Imp.refl _) | (apply Imp.left; apply Imp.left; exact Imp.refl _))) | (apply EvC.now; exact rfl))); done) | exact ext_blk _ _ _ | (first | exact hm5 | (focus (repeat (first | apply List.Mem.head | apply List.Mem.tail | apply List.mem_append_right))))); (intro hcc w hC; exact tame_below (awake24_any _) hC); (simp only [List.set_cons_succ, List.set_cons_zero]; exact rfl))
    | ((with_reducible apply q_kn); exact rfl; (with_reducible apply t_call Try.call10); (first | (apply EvC.gv; exact rfl; (with_reducible first | exact Imp.refl _ | (apply Imp.left; exact Imp.refl _) | (apply Imp.right; exact Imp.refl _) | (apply Imp.left; apply Imp.left; exact Imp.refl _))) | (apply EvC.now; exact rfl) | exact rfl | (with_reducible exact EvAll.nil) | (focus (repeat (first | apply EvAll.cons | exact EvAll.nil | (apply EvC.gv; exact rfl; (with_reducible first | exact Imp.refl _ | (apply Imp.left; exact Imp.refl _) | (apply Imp.right; exact Imp.refl _) | (apply Imp.left; apply Imp.left; exact Imp.refl _))) | (apply EvC.now; exact rfl))); done) | exact ext_blk _ _ _ | (first | exact hm5 | (focus (repeat (first | apply List.Mem.head | apply List.Mem.tail | apply List.mem_append_right))))); (intro hcc w hC; exact tame_below (HMAY.out _ (hBx _ _ _ hC hsx)) hC); (simp only [List.set_cons_succ, List.set_cons_zero]; exact rfl))
    | ((with_reducible apply q_kn); exact rfl; (with_reducible apply t_call Try.call11); (first | (apply EvC.gv; exact rfl; (with_reducible first | exact Imp.refl _ | (apply Imp.left; exact Imp.refl _) | (apply Imp.right; exact Imp.refl _) | (apply Imp.left; apply Imp.left; exact Imp.refl _))) | (apply EvC.now; exact rfl) | exact rfl | (with_reducible exact EvAll.nil) | (focus (repeat (first | apply EvAll.cons | exact EvAll.nil | (apply EvC.gv; exact rfl; (with_reducible first | exact Imp.refl _ | (apply Imp.left; exact Imp.refl _) | (apply Imp.right; exact Imp.refl _) | (apply Imp.left; apply Imp.left; exact Imp.refl _))) | (apply EvC.now; exact rfl))); done) | exact ext_blk _ _ _ | (first | exact hm5 | (focus (repeat (first | apply List.Mem.head | apply List.Mem.tail | apply List.mem_append_right))))); (intro hcc w hC; exact tame_below (HSIZE.out _ (hBx _ _ _ hC hsx)) hC); (simp only [List.set_cons_succ, List.set_cons_zero]; exact rfl))
    | ((with_reducible apply q_kn); exact rfl; (with_reducible apply t_call Try.call13); (first | (apply EvC.gv; exact rfl; (with_reducible first | exact Imp.refl _ | (apply Imp.left; exact Imp.refl _) | (apply Imp.right; exact Imp.refl _) | (apply Imp.left; apply Imp.left; exact Imp.refl _))) | (apply EvC.now; exact rfl) | exact rfl | (with_reducible exact EvAll.nil) | (focus (repeat (first | apply EvAll.cons | exact EvAll.nil | (apply EvC.gv; exact rfl; (with_reducible first | exact Imp.refl _ | (apply Imp.left; exact Imp.refl _) | (apply Imp.right; exact Imp.refl _) | (apply Imp.left; apply Imp.left; exact Imp.refl _))) | (apply EvC.now; exact rfl))); done) | exact ext_blk _ _ _ | (first | exact hm5 | (focus (repeat (first | apply List.Mem.head | apply List.Mem.tail | apply List.mem_append_right))))); (intro hcc w hC; exact tame_below (HREF.out _ (hBx _ _ _ hC hsx)) hC); (simp only [List.set_cons_succ, List.set_cons_zero]; exact rfl))
    | ((with_reducible apply q_kn); exact rfl; (with_reducible apply t_strW tTextN); (apply EvC.now; exact rfl); (exact fun w hC => hVs _ _ _ hC hsr); (simp only [List.set_cons_succ, List.set_cons_zero]; exact rfl))
    | ((with_reducible apply q_kn); exact rfl; (with_reducible apply t_strsame); (apply EvC.now; exact rfl); (apply EvC.now; exact rfl); (simp only [List.set_cons_succ, List.set_cons_zero]; exact rfl))
    | ((with_reducible apply q_kn); exact rfl; (with_reducible apply t_lenN Try.underlying9); (apply EvC.now; exact rfl); (simp only [List.set_cons_succ, List.set_cons_zero]; exact rfl))
    | ((with_reducible apply q_kn); exact rfl; (with_reducible apply t_cmp); (apply EvC.now; exact rfl); (apply EvC.now; exact rfl); exact cmp_selfS _; (simp only [List.set_cons_succ, List.set_cons_zero]; exact rfl))
    | ((with_reducible apply q_kn); exact rfl; ((with_reducible first | apply t_addr (fRec _ (by decide)) | apply t_addr (fBlk _ (by decide)) | apply t_one tByteR | apply t_one tSlR | apply t_one tIntR | apply t_one tBlks | apply t_part tBlk) <;> (first | (apply EvC.gv; exact rfl; (with_reducible first | exact Imp.refl _ | (apply Imp.left; exact Imp.refl _) | (apply Imp.right; exact Imp.refl _) | (apply Imp.left; apply Imp.left; exact Imp.refl _))) | (apply EvC.now; exact rfl) | exact rfl | (with_reducible exact EvAll.nil) | (focus (repeat (first | apply EvAll.cons | exact EvAll.nil | (apply EvC.gv; exact rfl; (with_reducible first | exact Imp.refl _ | (apply Imp.left; exact Imp.refl _) | (apply Imp.right; exact Imp.refl _) | (apply Imp.left; apply Imp.left; exact Imp.refl _))) | (apply EvC.now; exact rfl))); done) | exact ext_blk _ _ _ | (first | exact hm5 | (focus (repeat (first | apply List.Mem.head | apply List.Mem.tail | apply List.mem_append_right)))))); (simp only [List.set_cons_succ, List.set_cons_zero]; exact rfl))
    | ((with_reducible apply q_kn); exact rfl; (first | ((with_reducible first | apply t_move | apply t_assign | apply t_addr (fRec _ (by decide)) | apply t_addr (fBlk _ (by decide)) | apply t_one tByteR | apply t_one tSlR | apply t_one tIntR | apply t_one tBlks | apply t_part tBlk) <;> (first | (apply EvC.gv; exact rfl; (with_reducible first | exact Imp.refl _ | (apply Imp.left; exact Imp.refl _) | (apply Imp.right; exact Imp.refl _) | (apply Imp.left; apply Imp.left; exact Imp.refl _))) | (apply EvC.now; exact rfl) | exact rfl | (with_reducible exact EvAll.nil) | (focus (repeat (first | apply EvAll.cons | exact EvAll.nil | (apply EvC.gv; exact rfl; (with_reducible first | exact Imp.refl _ | (apply Imp.left; exact Imp.refl _) | (apply Imp.right; exact Imp.refl _) | (apply Imp.left; apply Imp.left; exact Imp.refl _))) | (apply EvC.now; exact rfl))); done) | exact ext_blk _ _ _ | (first | exact hm5 | (focus (repeat (first | apply List.Mem.head | apply List.Mem.tail | apply List.mem_append_right)))))) | ((with_reducible apply t_pick); (apply EvC.now; exact rfl); (apply EvC.now; exact rfl))); (simp only [List.set_cons_succ, List.set_cons_zero]; exact rfl)))
  refine wpT_nil ?_
  refine wpG_callO hR (i := 23) (by kernel_rfl) Try.call12 rfl rfl rfl ?_
  clear hR; intro w1 hR
  refine (HPUT.out _ (hBx _ _ _ hR hsx)).mono ?_
  rintro e w2 ⟨sp, vp, rfl, hOp, hSp⟩
  replace hR := hR.join hOp
  clear hOp
  refine ⟨_, rfl, hR.drop (List.sublist_append_right _ _), ?_⟩
  simp only [List.set_cons_succ, List.set_cons_zero]
  refine wpG_of_wpT (by kernel_rfl) (fun _ _ _ h => h) 4 _ [26] _ _ (by kernel_rfl) ?_
  repeat (refine wpT_step rfl ?_; first
      | ((with_reducible apply q_kn); exact rfl; (with_reducible apply t_call Try.call9); (first | (apply EvC.gv; exact rfl; (with_reducible first | exact Imp.refl _ | (apply Imp.left; exact Imp.refl _) | (apply Imp.right; exact Imp.refl _) | (apply Imp.left; apply Imp.left; exact Imp.refl _))) | (apply EvC.now; exact rfl) | exact rfl | (with_reducible exact EvAll.nil) | (focus (repeat (first | apply EvAll.cons | exact EvAll.nil | (apply EvC.gv; exact rfl; (with_reducible first | exact Imp.refl _ | (apply Imp.left; exact Imp.refl _) | (apply Imp.right; exact Imp.refl _) | (apply Imp.left; apply Imp.left; exact Imp.refl _))) | (apply EvC.now; exact rfl))); done) | exact ext_blk _ _ _ | (first | exact hm5 | (focus (repeat (first | apply List.Mem.head | apply List.Mem.tail | apply List.mem_append_right))))); (intro hcc w hC; exact tame_below (awake24_any _) hC); (simp only [List.set_cons_succ, List.set_cons_zero]; exact rfl))
      | ((with_reducible apply q_kn); exact rfl; (with_reducible apply t_call Try.call10); (first | (apply EvC.gv; exact rfl; (with_reducible first | exact Imp.refl _ | (apply Imp.left; exact Imp.refl _) | (apply Imp.right; exact Imp.refl _) | (apply Imp.left; apply Imp.left; exact Imp.refl _))) | (apply EvC.now; exact rfl) | exact rfl | (with_reducible exact EvAll.nil) | (focus (repeat (first | apply EvAll.cons | exact EvAll.nil | (apply EvC.gv; exact rfl; (with_reducible first | exact Imp.refl _ | (apply Imp.left; exact Imp.refl _) | (apply Imp.right; exact Imp.refl _) | (apply Imp.left; apply Imp.left; exact Imp.refl _))) | (apply EvC.now; exact rfl))); done) | exact ext_blk _ _ _ | (first | exact hm5 | (focus (repeat (first | apply List.Mem.head | apply List.Mem.tail | apply List.mem_append_right))))); (intro hcc w hC; exact tame_below (HMAY.out _ (hBx _ _ _ hC hsx)) hC); (simp only [List.set_cons_succ, List.set_cons_zero]; exact rfl))
      | ((with_reducible apply q_kn); exact rfl; (with_reducible apply t_call Try.call11); (first | (apply EvC.gv; exact rfl; (with_reducible first | exact Imp.refl _ | (apply Imp.left; exact Imp.refl _) | (apply Imp.right; exact Imp.refl _) | (apply Imp.left; apply Imp.left; exact Imp.refl _))) | (apply EvC.now; exact rfl) | exact rfl | (with_reducible exact EvAll.nil) | (focus (repeat (first | apply EvAll.cons | exact EvAll.nil | (apply EvC.gv; exact rfl; (with_reducible first | exact Imp.refl _ | (apply Imp.left; exact Imp.refl _) | (apply Imp.right; exact Imp.refl _) | (apply Imp.left; apply Imp.left; exact Imp.refl _))) | (apply EvC.now; exact rfl))); done) | exact ext_blk _ _ _ | (first | exact hm5 | (focus (repeat (first | apply List.Mem.head | apply List.Mem.tail | apply List.mem_append_right))))); (intro hcc w hC; exact tame_below (HSIZE.out _ (hBx _ _ _ hC hsx)) hC); (simp only [List.set_cons_succ, List.set_cons_zero]; exact rfl))
      | ((with_reducible apply q_kn); exact rfl; (with_reducible apply t_call Try.call13); (first | (apply EvC.gv; exact rfl; (with_reducible first | exact Imp.refl _ | (apply Imp.left; exact Imp.refl _) | (apply Imp.right; exact Imp.refl _) | (apply Imp.left; apply Imp.left; exact Imp.refl _))) | (apply EvC.now; exact rfl) | exact rfl | (with_reducible exact EvAll.nil) | (focus (repeat (first | apply EvAll.cons | exact EvAll.nil | (apply EvC.gv; exact rfl; (with_reducible first | exact Imp.refl _ | (apply Imp.left; exact Imp.refl _) | (apply Imp.right; exact Imp.refl _) | (apply Imp.left; apply Imp.left; exact Imp.refl _))) | (apply EvC.now; exact rfl))); done) | exact ext_blk _ _ _ | (first | exact hm5 | (focus (repeat (first | apply List.Mem.head | apply List.Mem.tail | apply List.mem_append_right))))); (intro hcc w hC; exact tame_below (HREF.out _ (hBx _ _ _ hC hsx)) hC); (simp only [List.set_cons_succ, List.set_cons_zero]; exact rfl))
      | ((with_reducible apply q_kn); exact rfl; (with_reducible apply t_strW tTextN); (apply EvC.now; exact rfl); (exact fun w hC => hVs _ _ _ hC hsr); (simp only [List.set_cons_succ, List.set_cons_zero]; exact rfl))
      | ((with_reducible apply q_kn); exact rfl; (with_reducible apply t_strsame); (apply EvC.now; exact rfl); (apply EvC.now; exact rfl); (simp only [List.set_cons_succ, List.set_cons_zero]; exact rfl))
      | ((with_reducible apply q_kn); exact rfl; (with_reducible apply t_lenN Try.underlying9); (apply EvC.now; exact rfl); (simp only [List.set_cons_succ, List.set_cons_zero]; exact rfl))
      | ((with_reducible apply q_kn); exact rfl; (with_reducible apply t_cmp); (apply EvC.now; exact rfl); (apply EvC.now; exact rfl); exact cmp_selfS _; (simp only [List.set_cons_succ, List.set_cons_zero]; exact rfl))
      | ((with_reducible apply q_kn); exact rfl; ((with_reducible first | apply t_addr (fRec _ (by decide)) | apply t_addr (fBlk _ (by decide)) | apply t_one tByteR | apply t_one tSlR | apply t_one tIntR | apply t_one tBlks | apply t_part tBlk) <;> (first | (apply EvC.gv; exact rfl; (with_reducible first | exact Imp.refl _ | (apply Imp.left; exact Imp.refl _) | (apply Imp.right; exact Imp.refl _) | (apply Imp.left; apply Imp.left; exact Imp.refl _))) | (apply EvC.now; exact rfl) | exact rfl | (with_reducible exact EvAll.nil) | (focus (repeat (first | apply EvAll.cons | exact EvAll.nil | (apply EvC.gv; exact rfl; (with_reducible first | exact Imp.refl _ | (apply Imp.left; exact Imp.refl _) | (apply Imp.right; exact Imp.refl _) | (apply Imp.left; apply Imp.left; exact Imp.refl _))) | (apply EvC.now; exact rfl))); done) | exact ext_blk _ _ _ | (first | exact hm5 | (focus (repeat (first | apply List.Mem.head | apply List.Mem.tail | apply List.mem_append_right)))))); (simp only [List.set_cons_succ, List.set_cons_zero]; exact rfl))
      | ((with_reducible apply q_kn); exact rfl; (first | ((with_reducible first | apply t_move | apply t_assign | apply t_addr (fRec _ (by decide)) | apply t_addr (fBlk _ (by decide)) | apply t_one tByteR | apply t_one tSlR | apply t_one tIntR | apply t_one tBlks | apply t_part tBlk) <;> (first | (apply EvC.gv; exact rfl; (with_reducible first | exact Imp.refl _ | (apply Imp.left; exact Imp.refl _) | (apply Imp.right; exact Imp.refl _) | (apply Imp.left; apply Imp.left; exact Imp.refl _))) | (apply EvC.now; exact rfl) | exact rfl | (with_reducible exact EvAll.nil) | (focus (repeat (first | apply EvAll.cons | exact EvAll.nil | (apply EvC.gv; exact rfl; (with_reducible first | exact Imp.refl _ | (apply Imp.left; exact Imp.refl _) | (apply Imp.right; exact Imp.refl _) | (apply Imp.left; apply Imp.left; exact Imp.refl _))) | (apply EvC.now; exact rfl))); done) | exact ext_blk _ _ _ | (first | exact hm5 | (focus (repeat (first | apply List.Mem.head | apply List.Mem.tail | apply List.mem_append_right)))))) | ((with_reducible apply t_pick); (apply EvC.now; exact rfl); (apply EvC.now; exact rfl))); (simp only [List.set_cons_succ, List.set_cons_zero]; exact rfl)))
  refine wpT_nil ?_
  refine wpG_q hR (i := 24) (by kernel_rfl) rfl rfl (t_strW tTextN (EvC.now rfl) (fun w hC => hSp _ _ _ hC (fun r h => List.mem_append_left _ h))) (by (simp only [List.set_cons_succ, List.set_cons_zero]; exact rfl)) (List.sublist_append_right _ _) ?_
  clear hR hSp; intro w hR
  refine wpG_of_wpT (by kernel_rfl) (fun _ _ _ h => h) 0 _ [27, 28, 29] _ _ (by kernel_rfl) ?_
  repeat (refine wpT_step rfl ?_; first
      | ((with_reducible apply q_kn); exact rfl; (with_reducible apply t_call Try.call9); (first | (apply EvC.gv; exact rfl; (with_reducible first | exact Imp.refl _ | (apply Imp.left; exact Imp.refl _) | (apply Imp.right; exact Imp.refl _) | (apply Imp.left; apply Imp.left; exact Imp.refl _))) | (apply EvC.now; exact rfl) | exact rfl | (with_reducible exact EvAll.nil) | (focus (repeat (first | apply EvAll.cons | exact EvAll.nil | (apply EvC.gv; exact rfl; (with_reducible first | exact Imp.refl _ | (apply Imp.left; exact Imp.refl _) | (apply Imp.right; exact Imp.refl _) | (apply Imp.left; apply Imp.left; exact Imp.refl _))) | (apply EvC.now; exact rfl))); done) | exact ext_blk _ _ _ | (first | exact hm5 | (focus (repeat (first | apply List.Mem.head | apply List.Mem.tail | apply List.mem_append_right))))); (intro hcc w hC; exact tame_below (awake24_any _) hC); (simp only [List.set_cons_succ, List.set_cons_zero]; exact rfl))
      | ((with_reducible apply q_kn); exact rfl; (with_reducible apply t_call Try.call10); (first | (apply EvC.gv; exact rfl; (with_reducible first | exact Imp.refl _ | (apply Imp.left; exact Imp.refl _) | (apply Imp.right; exact Imp.refl _) | (apply Imp.left; apply Imp.left; exact Imp.refl _))) | (apply EvC.now; exact rfl) | exact rfl | (with_reducible exact EvAll.nil) | (focus (repeat (first | apply EvAll.cons | exact EvAll.nil | (apply EvC.gv; exact rfl; (with_reducible first | exact Imp.refl _ | (apply Imp.left; exact Imp.refl _) | (apply Imp.right; exact Imp.refl _) | (apply Imp.left; apply Imp.left; exact Imp.refl _))) | (apply EvC.now; exact rfl))); done) | exact ext_blk _ _ _ | (first | exact hm5 | (focus (repeat (first | apply List.Mem.head | apply List.Mem.tail | apply List.mem_append_right))))); (intro hcc w hC; exact tame_below (HMAY.out _ (hBx _ _ _ hC hsx)) hC); (simp only [List.set_cons_succ, List.set_cons_zero]; exact rfl))
      | ((with_reducible apply q_kn); exact rfl; (with_reducible apply t_call Try.call11); (first | (apply EvC.gv; exact rfl; (with_reducible first | exact Imp.refl _ | (apply Imp.left; exact Imp.refl _) | (apply Imp.right; exact Imp.refl _) | (apply Imp.left; apply Imp.left; exact Imp.refl _))) | (apply EvC.now; exact rfl) | exact rfl | (with_reducible exact EvAll.nil) | (focus (repeat (first | apply EvAll.cons | exact EvAll.nil | (apply EvC.gv; exact rfl; (with_reducible first | exact Imp.refl _ | (apply Imp.left; exact Imp.refl _) | (apply Imp.right; exact Imp.refl _) | (apply Imp.left; apply Imp.left; exact Imp.refl _))) | (apply EvC.now; exact rfl))); done) | exact ext_blk _ _ _ | (first | exact hm5 | (focus (repeat (first | apply List.Mem.head | apply List.Mem.tail | apply List.mem_append_right))))); (intro hcc w hC; exact tame_below (HSIZE.out _ (hBx _ _ _ hC hsx)) hC); (simp only [List.set_cons_succ, List.set_cons_zero]; exact rfl))
      | ((with_reducible apply q_kn); exact rfl; (with_reducible apply t_call Try.call13); (first | (apply EvC.gv; exact rfl; (with_reducible first | exact Imp.refl _ | (apply Imp.left; exact Imp.refl _) | (apply Imp.right; exact Imp.refl _) | (apply Imp.left; apply Imp.left; exact Imp.refl _))) | (apply EvC.now; exact rfl) | exact rfl | (with_reducible exact EvAll.nil) | (focus (repeat (first | apply EvAll.cons | exact EvAll.nil | (apply EvC.gv; exact rfl; (with_reducible first | exact Imp.refl _ | (apply Imp.left; exact Imp.refl _) | (apply Imp.right; exact Imp.refl _) | (apply Imp.left; apply Imp.left; exact Imp.refl _))) | (apply EvC.now; exact rfl))); done) | exact ext_blk _ _ _ | (first | exact hm5 | (focus (repeat (first | apply List.Mem.head | apply List.Mem.tail | apply List.mem_append_right))))); (intro hcc w hC; exact tame_below (HREF.out _ (hBx _ _ _ hC hsx)) hC); (simp only [List.set_cons_succ, List.set_cons_zero]; exact rfl))
      | ((with_reducible apply q_kn); exact rfl; (with_reducible apply t_strW tTextN); (apply EvC.now; exact rfl); (exact fun w hC => hVs _ _ _ hC hsr); (simp only [List.set_cons_succ, List.set_cons_zero]; exact rfl))
      | ((with_reducible apply q_kn); exact rfl; (with_reducible apply t_strsame); (apply EvC.now; exact rfl); (apply EvC.now; exact rfl); (simp only [List.set_cons_succ, List.set_cons_zero]; exact rfl))
      | ((with_reducible apply q_kn); exact rfl; (with_reducible apply t_lenN Try.underlying9); (apply EvC.now; exact rfl); (simp only [List.set_cons_succ, List.set_cons_zero]; exact rfl))
      | ((with_reducible apply q_kn); exact rfl; (with_reducible apply t_cmp); (apply EvC.now; exact rfl); (apply EvC.now; exact rfl); exact cmp_selfS _; (simp only [List.set_cons_succ, List.set_cons_zero]; exact rfl))
      | ((with_reducible apply q_kn); exact rfl; ((with_reducible first | apply t_addr (fRec _ (by decide)) | apply t_addr (fBlk _ (by decide)) | apply t_one tByteR | apply t_one tSlR | apply t_one tIntR | apply t_one tBlks | apply t_part tBlk) <;> (first | (apply EvC.gv; exact rfl; (with_reducible first | exact Imp.refl _ | (apply Imp.left; exact Imp.refl _) | (apply Imp.right; exact Imp.refl _) | (apply Imp.left; apply Imp.left; exact Imp.refl _))) | (apply EvC.now; exact rfl) | exact rfl | (with_reducible exact EvAll.nil) | (focus (repeat (first | apply EvAll.cons | exact EvAll.nil | (apply EvC.gv; exact rfl; (with_reducible first | exact Imp.refl _ | (apply Imp.left; exact Imp.refl _) | (apply Imp.right; exact Imp.refl _) | (apply Imp.left; apply Imp.left; exact Imp.refl _))) | (apply EvC.now; exact rfl))); done) | exact ext_blk _ _ _ | (first | exact hm5 | (focus (repeat (first | apply List.Mem.head | apply List.Mem.tail | apply List.mem_append_right)))))); (simp only [List.set_cons_succ, List.set_cons_zero]; exact rfl))
      | ((with_reducible apply q_kn); exact rfl; (first | ((with_reducible first | apply t_move | apply t_assign | apply t_addr (fRec _ (by decide)) | apply t_addr (fBlk _ (by decide)) | apply t_one tByteR | apply t_one tSlR | apply t_one tIntR | apply t_one tBlks | apply t_part tBlk) <;> (first | (apply EvC.gv; exact rfl; (with_reducible first | exact Imp.refl _ | (apply Imp.left; exact Imp.refl _) | (apply Imp.right; exact Imp.refl _) | (apply Imp.left; apply Imp.left; exact Imp.refl _))) | (apply EvC.now; exact rfl) | exact rfl | (with_reducible exact EvAll.nil) | (focus (repeat (first | apply EvAll.cons | exact EvAll.nil | (apply EvC.gv; exact rfl; (with_reducible first | exact Imp.refl _ | (apply Imp.left; exact Imp.refl _) | (apply Imp.right; exact Imp.refl _) | (apply Imp.left; apply Imp.left; exact Imp.refl _))) | (apply EvC.now; exact rfl))); done) | exact ext_blk _ _ _ | (first | exact hm5 | (focus (repeat (first | apply List.Mem.head | apply List.Mem.tail | apply List.mem_append_right)))))) | ((with_reducible apply t_pick); (apply EvC.now; exact rfl); (apply EvC.now; exact rfl))); (simp only [List.set_cons_succ, List.set_cons_zero]; exact rfl)))
  refine wpT_nil ?_
  refine wpG_end hR (by kernel_rfl) ?_
  clear hR; intro w hR
  go_wp2_with fail
  go_ret
  exact ⟨rfl, hR.below⟩

set_option maxRecDepth 100000 in
theorem lifted (os : Os) (started : os.Started) (H : Type) (enc : TypeId × Value → H) :
    ReturnsInHanded {} Try.checked os 3 .any (Rows.iterSpreadsSpec.pre6 enc Try.prog Try.f3 Rows.iterSpreadsRow.domain false) (Rows.iterSpreadsSpec.post enc Try.prog Try.f3 false true false false) := by
  refine returnsInHanded_of_change (C := Try.checked) own started (by kernel_rfl) Try.func3
    (ChangeSpec.witness6 (enc := enc) (C := Try.checked) false ⟨#[], #[.agg (encK 0 nilS nilS), .int .i64 0], []⟩ 8 (by kernel_rfl) (by kernel_rfl) (by kernel_rfl) (by kernel_rfl)) ?_
  intro W base args ds gs before hval0 hW hcnd _
  have hval : ∀ (j : Nat) t v, Try.f3.params[j]? = some t → args[j]? = some v → Value.okWide Try.prog W .any base t v := hval0
  have hW' := hW
  obtain ⟨p, q, hA0, hV, rfl, hfz, hnd⟩ := hW
  have hA : DataW.TrodAll enc Try.prog W 0 (fun _ => true) true Try.f3.params.toList args.toList ds p := hA0
  rw [Try.params3] at hA hval
  obtain ⟨v0, vs0, d0, ds0, p0, q0, hargs, rfl, rfl, h0, r0⟩ := trodAll_cons hA
  obtain ⟨v1, vs1, d1, ds1, p1, q1, rfl, rfl, rfl, h1, r1⟩ := trodAll_cons r0
  obtain ⟨rfl, rfl, rfl⟩ := trodAll_nil r1
  obtain rfl : args = #[v0, v1] := by cases args; simp_all
  obtain ⟨rfl, rfl⟩ := trodVars_none hV
  have k0 := h0
  have lt0 : ∀ x ∈ p0, x.block < W.heap.size := by obtain ⟨m, hm⟩ := k0; exact DataW.trod_lt m _ _ _ hm
  have o0 := open_block (hval 0 25 v0 rfl rfl) h0
  obtain ⟨a1, rfl, rfl, rfl, w1⟩ := open_int Try.underlying3 (hval 1 3 v1 rfl rfl) h1
  clear hA0 hval0
  refine (walk v0 o0 a1 w1 W).mono fun e W' ⟨he, bel⟩ => ?_
  subst he
  exact ⟨_, rfl, _, _, _, [], _, [], hW', trodAll_mk1 (shut_bool Try.underlying4 _), (trodAll_cons_mk (Below.trod laidOut (by kernel_rfl) (of_decide_eq_true (by kernel_rfl)) k0 bel lt0) (trodAll_cons_mk (shut_int Try.underlying3 w1) trodAll_mk0)), rfl, bel.frame _, fun h => by cases h⟩

theorem over : Rows.iterSpreadsRow.holds Try.pinned (OpenSpec.ofChange Rows.iterSpreadsSpec) :=
  OpenClaim.holds_of_wide 3 Try.f3 rfl rfl rfl rfl rfl rfl rfl ⟨rfl, rfl, rfl, rfl, rfl⟩ rfl rfl rfl rfl rfl (by kernel_rfl) Try.func3 (by kernel_rfl)
    (of_decide_eq_true (by kernel_rfl)) (by unfold Func.isWrapper; first | (rw [if_pos (by decide +kernel)]; kernel_rfl) | (rw [if_neg (by decide +kernel)]; exact ⟨rfl, rfl⟩))
    (fun os started H enc _ => lifted os started H enc)

theorem proved : Rows.IterSpreadsSaid := over
#print axioms proved
end Go.Proofs.Ytalgadinoaeihaa.iterSpreads
