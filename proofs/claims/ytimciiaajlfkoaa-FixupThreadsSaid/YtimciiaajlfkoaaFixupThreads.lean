/- The law FixupThreads (what is told once, and meant again, is told out; what was not told can't be meant) returns true whatever the arguments, and each argument reads afterwards as before. There is no condition on the arguments. -/
import Derived.Test.YtimciiaajlfkoaaRows
import Derived.Test.YtimciiaajlfkoaaLaw25
import Derived.Test.YtimciiaajlfkoaaThsF
import Derived.Test.YtimciiaajlfkoaaBit1
import Derived.Test.YtimciiaajlfkoaaFixH
import Derived.Test.YtimciiaajlfkoaaAppG
import Derived.WalkKit
import Derived.ProofKit
import Derived.OpenShut
import Derived.ShutString
import Derived.ChangeOld
import Derived.Below
namespace Go.Proofs.Ytimciiaajlfkoaa.fixupThreads
open Go.ChangeShapes Go.WideShapes Go.ChangeAt Go.RowKit
open Go.ChangeMaps (open_string shut_string)
set_option linter.unusedVariables false
set_option linter.unusedSimpArgs false

theorem own : ownKnob Try.prog.godebug = none := by kernel_rfl
theorem laidOut : laidOutB Try.prog = true := by kernel_rfl










theorem l1F {x : FixZ} : cmpB .eql (([x] : List FixZ).length : Int) 1 = some true := rfl
theorem put_thr (h : ThrZ) : PutRel (encThr thr0) 0 (encThr h).toList (encThr h) := putList_all rfl
theorem one_thr (h : ThrZ) : (encThr h).all (·.oneCell') = true := by simp [encThr, Value.oneCell']
theorem ext_thr (h : ThrZ) : ExtRel (encThr h) 0 3 (encThr h) := extract_all rfl
def encP (a b : Int) : Array Value := #[.int .i64 a, .int .i64 b]
theorem open_pair {w : World} {base : Nat} {x : Value} (h : Value.okWide Try.prog w .any base 47 x) : ∃ a b : Int, x = .agg (encP a b) := by
  obtain ⟨cs, rfl, hl, hc⟩ := open_flat (ts := [3, 3]) Try.underlying47 rfl (by kernel_rfl) (by kernel_rfl) h
  match cs, hl with
  | [c0, c1], _ =>
    obtain ⟨n0, rfl, b0⟩ := cell_int Try.underlying3 (hc 0 _ _ rfl rfl)
    obtain ⟨n1, rfl, b1⟩ := cell_int Try.underlying3 (hc 1 _ _ rfl rfl)
    exact ⟨n0, n1, rfl⟩
theorem l0F : cmpB .eql (([] : List FixZ).length : Int) 0 = some true := rfl
theorem litE : (⟨#[]⟩ : ByteArray) = strOfNums [] := rfl
theorem m200 : ManyOk 200 5 30 := ⟨by decide, by decide, by decide⟩
theorem b200 : Built Try.prog 26 [(0, .int .i64 200), (1, .int .i64 5), (2, .int .i64 30)] (encM 200 5 30) := ⟨by kernel_rfl⟩
def toldF (x : FixZ) (a : Nat) (told : Int) : List Int := if told % 2 = 0 then headF x a else []
def toldT (x : FixZ) (b : Nat) (told : Int) : List Int := if told / 2 % 2 = 0 then headT x b else []
set_option maxHeartbeats 8000000 in
set_option maxRecDepth 100000 in
theorem walk {base : Nat} {w0 : World} (v0 : Value) (k0 : Value.okWide Try.prog w0 .any base 24 v0) (v1 : Value) (k1 : Value.okWide Try.prog w0 .any base 47 v1) (told : Int) (htold : (Lit.int .i64 told).wf = true) (wi : World) :
    Calls Try.prog 5 #[v0, v1, .int .i64 told] w0 fun e w' => e = .returned (.bool true) ∧ Below w0.heap.size w0 w' := by
  clear wi
  obtain ⟨f, hf, rfl⟩ := open_fix k0
  obtain ⟨n0, n1, rfl⟩ := open_pair k1
  clear k0 k1 htold
  have hR := Own.start w0
  have hnm := near_mayF f (n := 100) (by decide) m200
  have hxd : (nearF f 100 200 5 30).d ≤ 65535 := hf.d
  have HNEAR := Lib.hid (fun w => r25near_any f hf 100 200 5 30 (by decide) m200 w)
  obtain ⟨x, hx⟩ : ∃ x, nearF f 100 200 5 30 = x := ⟨_, rfl⟩
  rw [hx] at hnm hxd HNEAR
  clear hx
  obtain ⟨a, ha⟩ : ∃ a : Nat, n0 % 4 = a := Int.eq_ofNat_of_zero_le (by omega)
  obtain ⟨b, hb⟩ : ∃ b : Nat, n1 % 4 = b := Int.eq_ofNat_of_zero_le (by omega)
  have ha3 : a ≤ 3 := by omega
  have hb3 : b ≤ 3 := by omega
  have HA := Lib.hid (show bits .and .i64 n0 3 = (a : Int) from (i64_mask n0 2 3 (by decide) (by decide)).trans ha)
  have HB := Lib.hid (show bits .and .i64 n1 3 = (b : Int) from (i64_mask n1 2 3 (by decide) (by decide)).trans hb)
  clear ha hb
  go_enter Try.func5, Try.ntmps5
  go_upto_region 2 with (first
    | ((with_reducible apply wpList_box (ty := 24) hR); exact rfl; exact rfl; clear hR; intro g3 w hR; simp only [List.set_cons_succ, List.set_cons_zero])
    | ((with_reducible apply wpList_box (ty := 47) hR); exact rfl; exact rfl; clear hR; intro g4 w hR; simp only [List.set_cons_succ, List.set_cons_zero])
    | ((with_reducible apply wpList_built); exact rfl; exact rfl; exact b200; (simp only [List.set_cons_succ, List.set_cons_zero]; exact rfl))
    | (go_at_call 7; refine (HNEAR.out _).mono ?_; rintro e w' ⟨rfl, hb⟩; replace hR := hR.grow hb; clear hb)
    | ((with_reducible apply wpList_make hR zFix); exact rfl; clear hR; intro g7 w hR; simp only [List.set_cons_succ, List.set_cons_zero])
    | ((with_reducible apply wpList_put hR tFix); exact rfl; exact rfl; exact rfl; (focus (repeat (first | apply List.Mem.head | apply List.Mem.tail | apply List.mem_append_right))); exact put_fix _ _; exact rfl; simp [encF]; exact one_fix _; (focus (repeat (first | apply Upd.head | apply Upd.tail))); clear hR; intro w hR)
    | ((with_reducible apply q_ls hR); exact rfl; ((with_reducible first | apply t_addr (fRec _ (by decide)) | apply t_addr (fFix _ (by decide)) | apply t_one tByteR | apply t_one tSlR | apply t_one tIntR | apply t_one tWordF | apply t_one tBoolF | apply t_part tFix) <;> (first | (apply EvC.gv; exact rfl; (with_reducible first | exact Imp.refl _ | (apply Imp.left; exact Imp.refl _) | (apply Imp.right; exact Imp.refl _) | (apply Imp.left; apply Imp.left; exact Imp.refl _))) | (apply EvC.now; exact rfl) | exact rfl | (with_reducible exact EvAll.nil) | (focus (repeat (first | apply EvAll.cons | exact EvAll.nil | (apply EvC.gv; exact rfl; (with_reducible first | exact Imp.refl _ | (apply Imp.left; exact Imp.refl _) | (apply Imp.right; exact Imp.refl _) | (apply Imp.left; apply Imp.left; exact Imp.refl _))) | (apply EvC.now; exact rfl))); done) | exact ext_fix _ | (focus (repeat (first | apply List.Mem.head | apply List.Mem.tail | apply List.mem_append_right))))); (simp only [List.set_cons_succ, List.set_cons_zero]; exact rfl); clear hR; intro w hR))
  refine wp_region_rows hR [0, 1, 2, 3, 4, 5, 6, 7] 0 (by kernel_rfl) (by kernel_rfl) (by kernel_rfl) rfl ?_
  clear hR; intro hR
  repeat (refine wpT_step rfl ?_; first
    | ((with_reducible apply q_pl); (with_reducible apply t_pix Try.underlying47 iIntM); (apply EvC.now; exact rfl); (apply EvC.now; exact rfl); (constructor <;> decide); (simp only [List.set_cons_succ, List.set_cons_zero]; exact rfl))
    | ((first | (with_reducible apply q_pl) | ((with_reducible apply q_gd); (first | (apply GdBy.gt; exact rfl; exact rfl) | (apply GdBy.gf; exact rfl; exact rfl) | (apply GdBy.t; exact rfl; exact rfl) | (apply GdBy.f; exact rfl; exact rfl)))); (with_reducible apply t_numE); (first | (apply EvC.gv; exact rfl; (with_reducible first | exact Imp.refl _ | (apply Imp.left; exact Imp.refl _) | (apply Imp.right; exact Imp.refl _) | (apply Imp.left; apply Imp.left; exact Imp.refl _))) | (apply EvC.now; exact rfl) | exact rfl | (with_reducible exact EvAll.nil) | (focus (repeat (first | apply EvAll.cons | exact EvAll.nil | (apply EvC.gv; exact rfl; (with_reducible first | exact Imp.refl _ | (apply Imp.left; exact Imp.refl _) | (apply Imp.right; exact Imp.refl _) | (apply Imp.left; apply Imp.left; exact Imp.refl _))) | (apply EvC.now; exact rfl))); done) | exact ext_fix _ | (focus (repeat (first | apply List.Mem.head | apply List.Mem.tail | apply List.mem_append_right)))); (first | (apply EvC.gv; exact rfl; (with_reducible first | exact Imp.refl _ | (apply Imp.left; exact Imp.refl _) | (apply Imp.right; exact Imp.refl _) | (apply Imp.left; apply Imp.left; exact Imp.refl _))) | (apply EvC.now; exact rfl) | exact rfl | (with_reducible exact EvAll.nil) | (focus (repeat (first | apply EvAll.cons | exact EvAll.nil | (apply EvC.gv; exact rfl; (with_reducible first | exact Imp.refl _ | (apply Imp.left; exact Imp.refl _) | (apply Imp.right; exact Imp.refl _) | (apply Imp.left; apply Imp.left; exact Imp.refl _))) | (apply EvC.now; exact rfl))); done) | exact ext_fix _ | (focus (repeat (first | apply List.Mem.head | apply List.Mem.tail | apply List.mem_append_right)))); exact rfl; ((with_reducible first | exact HA.out | exact HB.out)); (simp only [List.set_cons_succ, List.set_cons_zero]; exact rfl))
    | ((first | (with_reducible apply q_pl) | ((with_reducible apply q_gd); (first | (apply GdBy.gt; exact rfl; exact rfl) | (apply GdBy.gf; exact rfl; exact rfl) | (apply GdBy.t; exact rfl; exact rfl) | (apply GdBy.f; exact rfl; exact rfl)))); (first | ((with_reducible first | apply t_move | apply t_assign | apply t_and | apply t_or | apply t_cmp | apply t_not | apply t_addr (fRec _ (by decide)) | apply t_addr (fFix _ (by decide)) | apply t_one tByteR | apply t_one tSlR | apply t_one tIntR | apply t_one tWordF | apply t_one tBoolF | apply t_part tFix) <;> (first | (apply EvC.gv; exact rfl; (with_reducible first | exact Imp.refl _ | (apply Imp.left; exact Imp.refl _) | (apply Imp.right; exact Imp.refl _) | (apply Imp.left; apply Imp.left; exact Imp.refl _))) | (apply EvC.now; exact rfl) | exact rfl | (with_reducible exact EvAll.nil) | (focus (repeat (first | apply EvAll.cons | exact EvAll.nil | (apply EvC.gv; exact rfl; (with_reducible first | exact Imp.refl _ | (apply Imp.left; exact Imp.refl _) | (apply Imp.right; exact Imp.refl _) | (apply Imp.left; apply Imp.left; exact Imp.refl _))) | (apply EvC.now; exact rfl))); done) | exact ext_fix _ | (focus (repeat (first | apply List.Mem.head | apply List.Mem.tail | apply List.mem_append_right)))))); (simp only [List.set_cons_succ, List.set_cons_zero]; exact rfl)))
  refine wpG_end hR (by kernel_rfl) ?_
  clear hR; intro w hR
  clear HA HB HNEAR
  have hfr := hnm.fr
  have htg := hnm.tg
  have hxn := hnm.n
  have HT1 := Lib.hid (show bits .and .i64 told 1 = told % 2 from i64_mask told 1 1 (by decide) (by decide))
  have HT2 := Lib.hid (i64_and2 told)
  have HT3 := Lib.hid (show bits .and .i64 told 3 = told % 4 from i64_mask told 2 3 (by decide) (by decide))
  have HF := Lib.hid (show toldF x a told = if told % 2 = 0 then headF x a else [] from rfl)
  have HG := Lib.hid (show toldT x b told = if told / 2 % 2 = 0 then headT x b else [] from rfl)
  have hFl : (headF x a).length ≤ 3 := by
    have := (idxN_len x.fn).2
    unfold headF frB
    split <;> simp only [List.length_cons, List.length_nil] <;> omega
  have hGl : (headT x b).length ≤ 3 := by
    have := (idxN_len x.n).2
    unfold headT
    simp only [List.length_cons]; omega
  obtain ⟨F, hFe⟩ : ∃ F, toldF x a told = F := ⟨_, rfl⟩
  obtain ⟨G, hGe⟩ : ∃ G, toldT x b told = G := ⟨_, rfl⟩
  rw [hFe] at HF
  rw [hGe] at HG
  have hF3 : F.length ≤ 3 := by
    rw [HF.out]
    split
    · exact hFl
    · simp
  have hG3 : G.length ≤ 3 := by
    rw [HG.out]
    split
    · exact hGl
    · simp
  go_upto_if 32 with (first
    | ((with_reducible apply q_ls hR); exact rfl; (with_reducible apply t_numE); (apply EvC.now; exact rfl); (apply EvC.now; exact rfl); exact rfl; (with_reducible first | exact HT1.out); (simp only [List.set_cons_succ, List.set_cons_zero]; exact rfl); clear hR; intro w hR))
  go_cut [10] (fun y wr => y = .string (strOfNums F) ∧ Own w0 wr [(g7, encF x, 24), (g4, encP n0 n1, 47), (g3, encF f, 24)])
  case first =>
    by_cases h1 : told % 2 = 0
    · have HN1 := Lib.hid (show IntKind.i64.wrap (4 * x.fr) = 4 * x.fr from IntWalk.i64_in _ (by omega))
      have HN2 := Lib.hid (show IntKind.i64.wrap (64 + 4 * x.fr) = 64 + 4 * x.fr from IntWalk.i64_in _ (by omega))
      have HN3 := Lib.hid (show IntKind.i64.wrap (64 + 4 * x.fr + (a : Int)) = 64 + 4 * x.fr + (a : Int) from IntWalk.i64_in _ (by omega))
      have HN4 := Lib.hid (show IntKind.u8.wrap (64 + 4 * x.fr + (a : Int)) = 64 + 4 * x.fr + (a : Int) from IntWalk.u8_in _ (by omega))
      have hok1 : bytesOk [64 + 4 * x.fr + (a : Int)] := .cons (by omega) .nil
      have HFE := Lib.hid (show F = (64 + 4 * x.fr + (a : Int)) :: frB x by rw [HF.out, if_pos h1]; rfl)
      have HFB := Lib.hid (show frB x = if x.fr < 3 then idxN x.fn else [] from rfl)
      refine wp_cond_at (nm := true) rfl (by simp [h1]) (fun _ => ?_) (fun h => absurd h (by decide))
      clear h1
      go_upto_if 46 with (first
    | ((with_reducible apply q_ls hR); exact rfl; (with_reducible apply t_numE); (apply EvC.now; exact rfl); (apply EvC.now; exact rfl); exact rfl; (with_reducible first | (first | exact HN1.out | exact HN2.out | exact HN3.out)); (simp only [List.set_cons_succ, List.set_cons_zero]; exact rfl); clear hR; intro w hR)
    | ((with_reducible apply q_ls hR); exact rfl; (with_reducible apply t_conv Try.underlying3 Try.underlying5); (apply EvC.now; exact rfl); exact HN4.out; (simp only [List.set_cons_succ, List.set_cons_zero]; exact rfl); clear hR; intro w hR)
    | ((with_reducible apply wpList_buildS hR); exact rfl; exact rfl; (exact bB1 _); clear hR; intro gb w hR; simp only [List.set_cons_succ, List.set_cons_zero])
    | ((with_reducible apply q_ls hR); exact rfl; (with_reducible apply t_strW tTextN); (apply EvC.now; exact rfl); (exact fun w hC => src_row hC (.head _) rfl hok1 (by simp)); (simp only [List.set_cons_succ, List.set_cons_zero]; exact rfl); clear hR; intro w hR)
    | ((with_reducible apply q_ls hR); exact rfl; (with_reducible apply t_catE (a := [])); (exact lit_tmp rfl litE); (apply EvC.now; exact rfl); (simp only [List.length_cons, List.length_nil]; omega); exact rfl; (simp only [List.set_cons_succ, List.set_cons_zero]; exact rfl); clear hR; intro w hR)
    | ((with_reducible apply q_ls hR); exact rfl; ((with_reducible first | apply t_addr (fRec _ (by decide)) | apply t_addr (fFix _ (by decide)) | apply t_one tByteR | apply t_one tSlR | apply t_one tIntR | apply t_one tWordF | apply t_one tBoolF | apply t_part tFix) <;> (first | (apply EvC.gv; exact rfl; (with_reducible first | exact Imp.refl _ | (apply Imp.left; exact Imp.refl _) | (apply Imp.right; exact Imp.refl _) | (apply Imp.left; apply Imp.left; exact Imp.refl _))) | (apply EvC.now; exact rfl) | exact rfl | (with_reducible exact EvAll.nil) | (focus (repeat (first | apply EvAll.cons | exact EvAll.nil | (apply EvC.gv; exact rfl; (with_reducible first | exact Imp.refl _ | (apply Imp.left; exact Imp.refl _) | (apply Imp.right; exact Imp.refl _) | (apply Imp.left; apply Imp.left; exact Imp.refl _))) | (apply EvC.now; exact rfl))); done) | exact ext_fix _ | (focus (repeat (first | apply List.Mem.head | apply List.Mem.tail | apply List.mem_append_right))))); (simp only [List.set_cons_succ, List.set_cons_zero]; exact rfl); clear hR; intro w hR))
      replace hR := hR.tail
      by_cases h3 : x.fr < 3
      · have hil := idxN_len x.fn
        have HC := Lib.hid (show [64 + 4 * x.fr + (a : Int)] ++ idxN x.fn = F by rw [HFE.out, HFB.out, if_pos h3]; rfl)
        refine wp_cond_at (nm := true) rfl (by simp; omega) (fun _ => ?_) (fun h => absurd h (by decide))
        go_wp2_with (first
    | (go_at_call 17; refine (r18index_any x.fn _ (by omega) (by omega)).mono ?_; rintro e w' ⟨rfl, hb⟩; replace hR := hR.grow hb; clear hb)
    | ((with_reducible apply q_ls hR); exact rfl; (with_reducible apply t_catE); (apply EvC.now; exact rfl); (apply EvC.now; exact rfl); (simp only [List.length_cons, List.length_nil]; omega); exact HC.out; (simp only [List.set_cons_succ, List.set_cons_zero]; exact rfl); clear hR; intro w hR)
    | ((with_reducible apply q_ls hR); exact rfl; ((with_reducible first | apply t_addr (fRec _ (by decide)) | apply t_addr (fFix _ (by decide)) | apply t_one tByteR | apply t_one tSlR | apply t_one tIntR | apply t_one tWordF | apply t_one tBoolF | apply t_part tFix) <;> (first | (apply EvC.gv; exact rfl; (with_reducible first | exact Imp.refl _ | (apply Imp.left; exact Imp.refl _) | (apply Imp.right; exact Imp.refl _) | (apply Imp.left; apply Imp.left; exact Imp.refl _))) | (apply EvC.now; exact rfl) | exact rfl | (with_reducible exact EvAll.nil) | (focus (repeat (first | apply EvAll.cons | exact EvAll.nil | (apply EvC.gv; exact rfl; (with_reducible first | exact Imp.refl _ | (apply Imp.left; exact Imp.refl _) | (apply Imp.right; exact Imp.refl _) | (apply Imp.left; apply Imp.left; exact Imp.refl _))) | (apply EvC.now; exact rfl))); done) | exact ext_fix _ | (focus (repeat (first | apply List.Mem.head | apply List.Mem.tail | apply List.mem_append_right))))); (simp only [List.set_cons_succ, List.set_cons_zero]; exact rfl); clear hR; intro w hR))
        go_meet
        exact ⟨rfl, hR⟩
      · have HC := Lib.hid (show [64 + 4 * x.fr + (a : Int)] = F by rw [HFE.out, HFB.out, if_neg h3])
        refine wp_cond_at (nm := false) rfl (by simp; omega) (fun h => absurd h (by decide)) (fun _ => ?_)
        go_wp2_with fail
        go_meet
        exact ⟨by rw [← HC.out], hR⟩
    · have HFE := Lib.hid (show F = [] by rw [HF.out, if_neg h1])
      refine wp_cond_at (nm := false) rfl (by simp; omega) (fun h => absurd h (by decide)) (fun _ => ?_)
      go_wp2_with fail
      go_meet
      exact ⟨by rw [HFE.out]; rfl, hR⟩
  case rest =>
  clear hR
  obtain ⟨rfl, hR⟩ := hcut
  go_upto_if 54 with (first
    | ((with_reducible apply q_ls hR); exact rfl; (with_reducible apply t_numE); (apply EvC.now; exact rfl); (apply EvC.now; exact rfl); exact rfl; (with_reducible first | exact HT2.out); (simp only [List.set_cons_succ, List.set_cons_zero]; exact rfl); clear hR; intro w hR))
  go_cut [10] (fun y wr => y = .string (strOfNums (F ++ G)) ∧ Own w0 wr [(g7, encF x, 24), (g4, encP n0 n1, 47), (g3, encF f, 24)])
  case first =>
    by_cases h2 : told / 2 % 2 = 0
    · have HN1 := Lib.hid (show IntKind.i64.wrap (4 * x.tg) = 4 * x.tg from IntWalk.i64_in _ (by omega))
      have HN2 := Lib.hid (show IntKind.i64.wrap (4 * x.tg + (b : Int)) = 4 * x.tg + (b : Int) from IntWalk.i64_in _ (by omega))
      have HN4 := Lib.hid (show IntKind.u8.wrap (4 * x.tg + (b : Int)) = 4 * x.tg + (b : Int) from IntWalk.u8_in _ (by omega))
      have hok1 : bytesOk [4 * x.tg + (b : Int)] := .cons (by omega) .nil
      have HGE := Lib.hid (show [4 * x.tg + (b : Int)] ++ idxN x.n = G by rw [HG.out, if_pos h2]; rfl)
      have hil := idxN_len x.n
      refine wp_cond_at (nm := true) rfl (by simp [h2]) (fun _ => ?_) (fun h => absurd h (by decide))
      clear h2
      go_upto_region 9 with fail
      refine wp_region_some hR _ (List.Sublist.refl _) [0, 1, 2, 3, 4, 5, 6, 9, 10, 11] 5 (by kernel_rfl) (by kernel_rfl) (by kernel_rfl) rfl ?_
      clear hR; intro hR
      repeat (refine wpT_step rfl ?_; first
    | ((first | (with_reducible apply q_pl) | ((with_reducible apply q_gd); (first | (apply GdBy.gt; exact rfl; exact rfl) | (apply GdBy.gf; exact rfl; exact rfl) | (apply GdBy.t; exact rfl; exact rfl) | (apply GdBy.f; exact rfl; exact rfl)))); (with_reducible apply t_numE); (first | (apply EvC.gv; exact rfl; (with_reducible first | exact Imp.refl _ | (apply Imp.left; exact Imp.refl _) | (apply Imp.right; exact Imp.refl _) | (apply Imp.left; apply Imp.left; exact Imp.refl _))) | (apply EvC.now; exact rfl) | exact rfl | (with_reducible exact EvAll.nil) | (focus (repeat (first | apply EvAll.cons | exact EvAll.nil | (apply EvC.gv; exact rfl; (with_reducible first | exact Imp.refl _ | (apply Imp.left; exact Imp.refl _) | (apply Imp.right; exact Imp.refl _) | (apply Imp.left; apply Imp.left; exact Imp.refl _))) | (apply EvC.now; exact rfl))); done) | exact ext_fix _ | (focus (repeat (first | apply List.Mem.head | apply List.Mem.tail | apply List.mem_append_right)))); (first | (apply EvC.gv; exact rfl; (with_reducible first | exact Imp.refl _ | (apply Imp.left; exact Imp.refl _) | (apply Imp.right; exact Imp.refl _) | (apply Imp.left; apply Imp.left; exact Imp.refl _))) | (apply EvC.now; exact rfl) | exact rfl | (with_reducible exact EvAll.nil) | (focus (repeat (first | apply EvAll.cons | exact EvAll.nil | (apply EvC.gv; exact rfl; (with_reducible first | exact Imp.refl _ | (apply Imp.left; exact Imp.refl _) | (apply Imp.right; exact Imp.refl _) | (apply Imp.left; apply Imp.left; exact Imp.refl _))) | (apply EvC.now; exact rfl))); done) | exact ext_fix _ | (focus (repeat (first | apply List.Mem.head | apply List.Mem.tail | apply List.mem_append_right)))); exact rfl; ((with_reducible first | exact HN1.out | exact HN2.out)); (simp only [List.set_cons_succ, List.set_cons_zero]; exact rfl))
    | ((first | (with_reducible apply q_pl) | ((with_reducible apply q_gd); (first | (apply GdBy.gt; exact rfl; exact rfl) | (apply GdBy.gf; exact rfl; exact rfl) | (apply GdBy.t; exact rfl; exact rfl) | (apply GdBy.f; exact rfl; exact rfl)))); (with_reducible apply t_conv Try.underlying3 Try.underlying5); (first | (apply EvC.gv; exact rfl; (with_reducible first | exact Imp.refl _ | (apply Imp.left; exact Imp.refl _) | (apply Imp.right; exact Imp.refl _) | (apply Imp.left; apply Imp.left; exact Imp.refl _))) | (apply EvC.now; exact rfl) | exact rfl | (with_reducible exact EvAll.nil) | (focus (repeat (first | apply EvAll.cons | exact EvAll.nil | (apply EvC.gv; exact rfl; (with_reducible first | exact Imp.refl _ | (apply Imp.left; exact Imp.refl _) | (apply Imp.right; exact Imp.refl _) | (apply Imp.left; apply Imp.left; exact Imp.refl _))) | (apply EvC.now; exact rfl))); done) | exact ext_fix _ | (focus (repeat (first | apply List.Mem.head | apply List.Mem.tail | apply List.mem_append_right)))); (exact HN4.out); (simp only [List.set_cons_succ, List.set_cons_zero]; exact rfl))
    | ((first | (with_reducible apply q_pl) | ((with_reducible apply q_gd); (first | (apply GdBy.gt; exact rfl; exact rfl) | (apply GdBy.gf; exact rfl; exact rfl) | (apply GdBy.t; exact rfl; exact rfl) | (apply GdBy.f; exact rfl; exact rfl)))); (with_reducible apply t_call Try.call17); (first | (apply EvC.gv; exact rfl; (with_reducible first | exact Imp.refl _ | (apply Imp.left; exact Imp.refl _) | (apply Imp.right; exact Imp.refl _) | (apply Imp.left; apply Imp.left; exact Imp.refl _))) | (apply EvC.now; exact rfl) | exact rfl | (with_reducible exact EvAll.nil) | (focus (repeat (first | apply EvAll.cons | exact EvAll.nil | (apply EvC.gv; exact rfl; (with_reducible first | exact Imp.refl _ | (apply Imp.left; exact Imp.refl _) | (apply Imp.right; exact Imp.refl _) | (apply Imp.left; apply Imp.left; exact Imp.refl _))) | (apply EvC.now; exact rfl))); done) | exact ext_fix _ | (focus (repeat (first | apply List.Mem.head | apply List.Mem.tail | apply List.mem_append_right)))); (intro hcc w hC; exact tame_below (r18index_any x.n _ (by omega) (by omega)) hC); (simp only [List.set_cons_succ, List.set_cons_zero]; exact rfl))
    | ((first | (with_reducible apply q_pl) | ((with_reducible apply q_gd); (first | (apply GdBy.gt; exact rfl; exact rfl) | (apply GdBy.gf; exact rfl; exact rfl) | (apply GdBy.t; exact rfl; exact rfl) | (apply GdBy.f; exact rfl; exact rfl)))); (first | ((with_reducible first | apply t_move | apply t_assign | apply t_and | apply t_or | apply t_cmp | apply t_not | apply t_addr (fRec _ (by decide)) | apply t_addr (fFix _ (by decide)) | apply t_one tByteR | apply t_one tSlR | apply t_one tIntR | apply t_one tWordF | apply t_one tBoolF | apply t_part tFix) <;> (first | (apply EvC.gv; exact rfl; (with_reducible first | exact Imp.refl _ | (apply Imp.left; exact Imp.refl _) | (apply Imp.right; exact Imp.refl _) | (apply Imp.left; apply Imp.left; exact Imp.refl _))) | (apply EvC.now; exact rfl) | exact rfl | (with_reducible exact EvAll.nil) | (focus (repeat (first | apply EvAll.cons | exact EvAll.nil | (apply EvC.gv; exact rfl; (with_reducible first | exact Imp.refl _ | (apply Imp.left; exact Imp.refl _) | (apply Imp.right; exact Imp.refl _) | (apply Imp.left; apply Imp.left; exact Imp.refl _))) | (apply EvC.now; exact rfl))); done) | exact ext_fix _ | (focus (repeat (first | apply List.Mem.head | apply List.Mem.tail | apply List.mem_append_right)))))); (simp only [List.set_cons_succ, List.set_cons_zero]; exact rfl)))
      refine wpT_nil ?_
      refine wpG_buildS hR (i := 7) (by kernel_rfl) rfl rfl rfl (bB1 _) (List.Sublist.refl _) ?_
      clear hR; intro gb w hR
      simp only [List.set_cons_succ, List.set_cons_zero]
      refine wpG_q hR (i := 8) (by kernel_rfl) rfl rfl (t_strW tTextN (EvC.now rfl) (fun w hC => src_row hC (.head _) rfl hok1 (by simp))) (by (simp only [List.set_cons_succ, List.set_cons_zero]; exact rfl)) (List.Sublist.cons _ (List.Sublist.refl _)) ?_
      clear hR; intro w hR
      refine wpG_of_wpT (by kernel_rfl) (fun _ _ _ h => h) 0 _ [12, 13, 14] _ _ (by kernel_rfl) ?_
      repeat (refine wpT_step rfl ?_; first
    | ((with_reducible apply q_pl); (with_reducible apply t_catE); (apply EvC.now; exact rfl); (apply EvC.now; exact rfl); (simp only [List.length_cons, List.length_nil]; omega); exact HGE.out; (simp only [List.set_cons_succ, List.set_cons_zero]; exact rfl))
    | ((with_reducible apply q_pl); (with_reducible apply t_catE); (apply EvC.now; exact rfl); (apply EvC.now; exact rfl); omega; exact rfl; (simp only [List.set_cons_succ, List.set_cons_zero]; exact rfl))
    | ((first | (with_reducible apply q_pl) | ((with_reducible apply q_gd); (first | (apply GdBy.gt; exact rfl; exact rfl) | (apply GdBy.gf; exact rfl; exact rfl) | (apply GdBy.t; exact rfl; exact rfl) | (apply GdBy.f; exact rfl; exact rfl)))); (first | ((with_reducible first | apply t_move | apply t_assign | apply t_and | apply t_or | apply t_cmp | apply t_not | apply t_addr (fRec _ (by decide)) | apply t_addr (fFix _ (by decide)) | apply t_one tByteR | apply t_one tSlR | apply t_one tIntR | apply t_one tWordF | apply t_one tBoolF | apply t_part tFix) <;> (first | (apply EvC.gv; exact rfl; (with_reducible first | exact Imp.refl _ | (apply Imp.left; exact Imp.refl _) | (apply Imp.right; exact Imp.refl _) | (apply Imp.left; apply Imp.left; exact Imp.refl _))) | (apply EvC.now; exact rfl) | exact rfl | (with_reducible exact EvAll.nil) | (focus (repeat (first | apply EvAll.cons | exact EvAll.nil | (apply EvC.gv; exact rfl; (with_reducible first | exact Imp.refl _ | (apply Imp.left; exact Imp.refl _) | (apply Imp.right; exact Imp.refl _) | (apply Imp.left; apply Imp.left; exact Imp.refl _))) | (apply EvC.now; exact rfl))); done) | exact ext_fix _ | (focus (repeat (first | apply List.Mem.head | apply List.Mem.tail | apply List.mem_append_right)))))); (simp only [List.set_cons_succ, List.set_cons_zero]; exact rfl)))
      refine wpT_nil ?_
      refine wpG_end hR (by kernel_rfl) ?_
      clear hR; intro w hR
      go_wp2_with fail
      go_meet
      exact ⟨rfl, hR.tail⟩
    · have HGE := Lib.hid (show F = F ++ G by rw [HG.out, if_neg h2, List.append_nil])
      refine wp_cond_at (nm := false) rfl (by simp; omega) (fun h => absurd h (by decide)) (fun _ => ?_)
      go_wp2_with fail
      go_meet
      exact ⟨by rw [← HGE.out], hR⟩
  case rest =>
  clear hR
  obtain ⟨rfl, hR⟩ := hcut
  obtain ⟨U, hU⟩ : ∃ U, F ++ G = U := ⟨_, rfl⟩
  rw [hU]
  have hUl : U.length ≤ 6 := by rw [← hU, List.length_append]; omega
  have hUo : bytesOk U := by
    rw [← hU, HF.out, HG.out]
    refine bytesOk.append ?_ ?_
    · split
      · refine .cons (by omega) ?_
        unfold frB; split
        · exact idxN_ok _
        · exact .nil
      · exact .nil
    · split
      · exact .cons (by omega) (idxN_ok _)
      · exact .nil
  have HUE := Lib.hid hU
  clear hU
  clear HT1 HT2
  have hob := oneB_bd hnm
  have htb := thrB_bd hnm
  have htd := third_bits x ha3 hb3
  have hpok := putF_ok hnm
  have hpl := (putF_len x).1
  have HPUT := Lib.hid (fun w => r25put_any x 100 hnm hxd w)
  have HP2 := Lib.hid (show (putF x)[2]? = some (thrB x) from rfl)
  have HPT := Lib.hid (show (putF x).take 2 = [oneB x, x.a % 256] from rfl)
  have HN1 := Lib.hid (show IntKind.i64.wrap (16 * (a : Int)) = 16 * (a : Int) from IntWalk.i64_in _ (by omega))
  have HN2 := Lib.hid (show IntKind.i64.wrap (128 + 16 * (a : Int)) = 128 + 16 * (a : Int) from IntWalk.i64_in _ (by omega))
  have HN3 := Lib.hid (show IntKind.i64.wrap (128 + 16 * (a : Int) + 8) = 128 + 16 * (a : Int) + 8 from IntWalk.i64_in _ (by omega))
  have HN4 := Lib.hid (show IntKind.i64.wrap (128 + 16 * (a : Int) + 8 + (b : Int)) = 128 + 16 * (a : Int) + 8 + (b : Int) from IntWalk.i64_in _ (by omega))
  obtain ⟨Q, hQ⟩ : ∃ Q : Int, (if x.d = 0 then (4 : Int) else 0) = Q := ⟨_, rfl⟩
  have hQb : 0 ≤ Q ∧ Q ≤ 4 := by rw [← hQ]; split <;> decide
  have HN5 := Lib.hid (show bits .and .i64 (thrB x) 4 = Q by
    rw [i64_and4, ← hQ]
    unfold thrB
    split <;> omega)
  have HN6 := Lib.hid (show IntKind.i64.wrap (128 + 16 * (a : Int) + 8 + (b : Int) + Q) = thirdF x a b by unfold thirdF; rw [hQ]; exact IntWalk.i64_in _ (by omega))
  have HN7 := Lib.hid (show IntKind.i64.wrap (thrB x) = thrB x from IntWalk.i64_in _ (by omega))
  have HBODY := Lib.hid (show bodyF x a b = [oneB x, x.a % 256, thirdF x a b] ++ dB x from rfl)
  have HDB := Lib.hid (show dB x = if x.d = 0 then [] else bytesN x.d 2 from rfl)
  have hbl := bodyF_len x a b
  have hbdo : bytesOk (bodyF x a b) := .cons (by omega) (.cons (by omega) (.cons (by omega) (by
    show bytesOk (dB x)
    unfold dB; split
    · exact .nil
    · exact bytesN_ok _ _)))
  clear hQ
  obtain ⟨TH, hTH⟩ : ∃ TH, thirdF x a b = TH := ⟨_, rfl⟩
  rw [hTH] at HN6 HBODY htd
  have HC8 := Lib.hid (show IntKind.u8.wrap TH = TH from IntWalk.u8_in _ (by omega))
  have hok1 : bytesOk [TH] := .cons (by omega) .nil
  obtain ⟨PF, hPF⟩ : ∃ PF, putF x = PF := ⟨_, rfl⟩
  rw [hPF] at hpok hpl HPUT HP2 HPT
  clear hTH hPF
  have HPH := Lib.hid (show U ++ PF.take 2 = U ++ [oneB x, x.a % 256] by rw [HPT.out])
  have HPI := Lib.hid (show (U ++ [oneB x, x.a % 256]) ++ [TH] = U ++ [oneB x, x.a % 256, TH] by simp)
  go_upto_region 12 with (first
    | (go_at_call 12; refine (HPUT.out _).mono ?_; rintro e w' ⟨rfl, hb⟩; replace hR := hR.grow hb; clear hb)
    | ((with_reducible apply q_ls hR); exact rfl; (with_reducible apply t_numE); (apply EvC.now; exact rfl); (apply EvC.now; exact rfl); exact rfl; (with_reducible first | (first | exact HN1.out | exact HN2.out | exact HN3.out | exact HN4.out | exact HN5.out | exact HN6.out)); (simp only [List.set_cons_succ, List.set_cons_zero]; exact rfl); clear hR; intro w hR)
    | ((with_reducible apply q_ls hR); exact rfl; (with_reducible apply t_atN (k := 2) Try.underlying9 hpok); (apply EvC.now; exact rfl); (apply EvC.now; exact rfl); exact rfl; exact HP2.out; (simp only [List.set_cons_succ, List.set_cons_zero]; exact rfl); clear hR; intro w hR)
    | ((with_reducible apply q_ls hR); exact rfl; (with_reducible apply t_conv Try.underlying5 Try.underlying3); (apply EvC.now; exact rfl); exact HN7.out; (simp only [List.set_cons_succ, List.set_cons_zero]; exact rfl); clear hR; intro w hR)
    | ((with_reducible apply q_ls hR); exact rfl; ((with_reducible first | apply t_addr (fRec _ (by decide)) | apply t_addr (fFix _ (by decide)) | apply t_one tByteR | apply t_one tSlR | apply t_one tIntR | apply t_one tWordF | apply t_one tBoolF | apply t_part tFix) <;> (first | (apply EvC.gv; exact rfl; (with_reducible first | exact Imp.refl _ | (apply Imp.left; exact Imp.refl _) | (apply Imp.right; exact Imp.refl _) | (apply Imp.left; apply Imp.left; exact Imp.refl _))) | (apply EvC.now; exact rfl) | exact rfl | (with_reducible exact EvAll.nil) | (focus (repeat (first | apply EvAll.cons | exact EvAll.nil | (apply EvC.gv; exact rfl; (with_reducible first | exact Imp.refl _ | (apply Imp.left; exact Imp.refl _) | (apply Imp.right; exact Imp.refl _) | (apply Imp.left; apply Imp.left; exact Imp.refl _))) | (apply EvC.now; exact rfl))); done) | exact ext_fix _ | (focus (repeat (first | apply List.Mem.head | apply List.Mem.tail | apply List.mem_append_right))))); (simp only [List.set_cons_succ, List.set_cons_zero]; exact rfl); clear hR; intro w hR))
  clear HN1 HN2 HN3 HN4 HN5 HN6 HN7 HPUT HP2
  refine wp_region_some hR _ (List.Sublist.refl _) [0, 1, 2, 3, 4, 5] 4 (by kernel_rfl) (by kernel_rfl) (by kernel_rfl) rfl ?_
  clear hR; intro hR
  repeat (refine wpT_step rfl ?_; first
    | ((first | (with_reducible apply q_pl) | ((with_reducible apply q_gd); (first | (apply GdBy.gt; exact rfl; exact rfl) | (apply GdBy.gf; exact rfl; exact rfl) | (apply GdBy.t; exact rfl; exact rfl) | (apply GdBy.f; exact rfl; exact rfl)))); (with_reducible apply t_conv Try.underlying3 Try.underlying5); (first | (apply EvC.gv; exact rfl; (with_reducible first | exact Imp.refl _ | (apply Imp.left; exact Imp.refl _) | (apply Imp.right; exact Imp.refl _) | (apply Imp.left; apply Imp.left; exact Imp.refl _))) | (apply EvC.now; exact rfl) | exact rfl | (with_reducible exact EvAll.nil) | (focus (repeat (first | apply EvAll.cons | exact EvAll.nil | (apply EvC.gv; exact rfl; (with_reducible first | exact Imp.refl _ | (apply Imp.left; exact Imp.refl _) | (apply Imp.right; exact Imp.refl _) | (apply Imp.left; apply Imp.left; exact Imp.refl _))) | (apply EvC.now; exact rfl))); done) | exact ext_fix _ | (focus (repeat (first | apply List.Mem.head | apply List.Mem.tail | apply List.mem_append_right)))); (exact HC8.out); (simp only [List.set_cons_succ, List.set_cons_zero]; exact rfl))
    | ((with_reducible apply q_pl); (with_reducible apply t_takeN (k := 2) Try.underlying9); (apply EvC.now; exact rfl); (apply EvC.now; exact rfl); exact rfl; omega; (simp only [List.set_cons_succ, List.set_cons_zero]; exact rfl))
    | ((with_reducible apply q_pl); (with_reducible apply t_catE); (apply EvC.now; exact rfl); (apply EvC.now; exact rfl); (simp only [List.length_append, List.length_take]; omega); exact HPH.out; (simp only [List.set_cons_succ, List.set_cons_zero]; exact rfl))
    | ((first | (with_reducible apply q_pl) | ((with_reducible apply q_gd); (first | (apply GdBy.gt; exact rfl; exact rfl) | (apply GdBy.gf; exact rfl; exact rfl) | (apply GdBy.t; exact rfl; exact rfl) | (apply GdBy.f; exact rfl; exact rfl)))); (first | ((with_reducible first | apply t_move | apply t_assign | apply t_and | apply t_or | apply t_cmp | apply t_not | apply t_addr (fRec _ (by decide)) | apply t_addr (fFix _ (by decide)) | apply t_one tByteR | apply t_one tSlR | apply t_one tIntR | apply t_one tWordF | apply t_one tBoolF | apply t_part tFix) <;> (first | (apply EvC.gv; exact rfl; (with_reducible first | exact Imp.refl _ | (apply Imp.left; exact Imp.refl _) | (apply Imp.right; exact Imp.refl _) | (apply Imp.left; apply Imp.left; exact Imp.refl _))) | (apply EvC.now; exact rfl) | exact rfl | (with_reducible exact EvAll.nil) | (focus (repeat (first | apply EvAll.cons | exact EvAll.nil | (apply EvC.gv; exact rfl; (with_reducible first | exact Imp.refl _ | (apply Imp.left; exact Imp.refl _) | (apply Imp.right; exact Imp.refl _) | (apply Imp.left; apply Imp.left; exact Imp.refl _))) | (apply EvC.now; exact rfl))); done) | exact ext_fix _ | (focus (repeat (first | apply List.Mem.head | apply List.Mem.tail | apply List.mem_append_right)))))); (simp only [List.set_cons_succ, List.set_cons_zero]; exact rfl)))
  refine wpT_nil ?_
  refine wpG_buildS hR (i := 6) (by kernel_rfl) rfl rfl rfl (bB1 _) (List.Sublist.refl _) ?_
  clear hR; intro gb w hR
  simp only [List.set_cons_succ, List.set_cons_zero]
  refine wpG_q hR (i := 7) (by kernel_rfl) rfl rfl (t_strW tTextN (EvC.now rfl) (fun w hC => src_row hC (.head _) rfl hok1 (by simp))) (by (simp only [List.set_cons_succ, List.set_cons_zero]; exact rfl)) (List.Sublist.cons _ (List.Sublist.refl _)) ?_
  clear hR; intro w hR
  refine wpG_of_wpT (by kernel_rfl) (fun _ _ _ h => h) 0 _ [8, 9] _ _ (by kernel_rfl) ?_
  repeat (refine wpT_step rfl ?_; first
    | ((with_reducible apply q_pl); (with_reducible apply t_catE); (apply EvC.now; exact rfl); (apply EvC.now; exact rfl); (simp only [List.length_append, List.length_cons, List.length_nil]; omega); exact HPI.out; (simp only [List.set_cons_succ, List.set_cons_zero]; exact rfl))
    | ((first | (with_reducible apply q_pl) | ((with_reducible apply q_gd); (first | (apply GdBy.gt; exact rfl; exact rfl) | (apply GdBy.gf; exact rfl; exact rfl) | (apply GdBy.t; exact rfl; exact rfl) | (apply GdBy.f; exact rfl; exact rfl)))); (first | ((with_reducible first | apply t_move | apply t_assign | apply t_and | apply t_or | apply t_cmp | apply t_not | apply t_addr (fRec _ (by decide)) | apply t_addr (fFix _ (by decide)) | apply t_one tByteR | apply t_one tSlR | apply t_one tIntR | apply t_one tWordF | apply t_one tBoolF | apply t_part tFix) <;> (first | (apply EvC.gv; exact rfl; (with_reducible first | exact Imp.refl _ | (apply Imp.left; exact Imp.refl _) | (apply Imp.right; exact Imp.refl _) | (apply Imp.left; apply Imp.left; exact Imp.refl _))) | (apply EvC.now; exact rfl) | exact rfl | (with_reducible exact EvAll.nil) | (focus (repeat (first | apply EvAll.cons | exact EvAll.nil | (apply EvC.gv; exact rfl; (with_reducible first | exact Imp.refl _ | (apply Imp.left; exact Imp.refl _) | (apply Imp.right; exact Imp.refl _) | (apply Imp.left; apply Imp.left; exact Imp.refl _))) | (apply EvC.now; exact rfl))); done) | exact ext_fix _ | (focus (repeat (first | apply List.Mem.head | apply List.Mem.tail | apply List.mem_append_right)))))); (simp only [List.set_cons_succ, List.set_cons_zero]; exact rfl)))
  refine wpT_nil ?_
  refine wpG_end hR (by kernel_rfl) ?_
  clear hR; intro w hR
  replace hR := hR.tail
  obtain ⟨BO, hBO⟩ : ∃ BO, bodyF x a b = BO := ⟨_, rfl⟩
  rw [hBO] at HBODY hbl hbdo
  go_upto_if 93 with (first
    | ((with_reducible apply q_ls hR); exact rfl; ((with_reducible first | apply t_addr (fRec _ (by decide)) | apply t_addr (fFix _ (by decide)) | apply t_one tByteR | apply t_one tSlR | apply t_one tIntR | apply t_one tWordF | apply t_one tBoolF | apply t_part tFix) <;> (first | (apply EvC.gv; exact rfl; (with_reducible first | exact Imp.refl _ | (apply Imp.left; exact Imp.refl _) | (apply Imp.right; exact Imp.refl _) | (apply Imp.left; apply Imp.left; exact Imp.refl _))) | (apply EvC.now; exact rfl) | exact rfl | (with_reducible exact EvAll.nil) | (focus (repeat (first | apply EvAll.cons | exact EvAll.nil | (apply EvC.gv; exact rfl; (with_reducible first | exact Imp.refl _ | (apply Imp.left; exact Imp.refl _) | (apply Imp.right; exact Imp.refl _) | (apply Imp.left; apply Imp.left; exact Imp.refl _))) | (apply EvC.now; exact rfl))); done) | exact ext_fix _ | (focus (repeat (first | apply List.Mem.head | apply List.Mem.tail | apply List.mem_append_right))))); (simp only [List.set_cons_succ, List.set_cons_zero]; exact rfl); clear hR; intro w hR))
  go_cut [13] (fun y wr => y = .string (strOfNums (U ++ BO)) ∧ Own w0 wr [(g7, encF x, 24), (g4, encP n0 n1, 47), (g3, encF f, 24)])
  case first =>
    by_cases hd0 : x.d = 0
    · have HC := Lib.hid (show U ++ [oneB x, x.a % 256, TH] = U ++ BO by rw [HBODY.out, HDB.out, if_pos hd0, List.append_nil])
      refine wp_cond_at (nm := false) rfl (by simp [hd0]) (fun h => absurd h (by decide)) (fun _ => ?_)
      clear hd0
      go_wp2_with fail
      go_meet
      exact ⟨by rw [HC.out], hR⟩
    · have hb2 := bytesN_len x.d 2
      have HC := Lib.hid (show (U ++ [oneB x, x.a % 256, TH]) ++ bytesN x.d 2 = U ++ BO by rw [HBODY.out, HDB.out, if_neg hd0, List.append_assoc])
      have HU := Lib.hid (show IntKind.u64.wrap (x.d : Int) = (x.d : Int) by rw [IntKind.wrap_u64]; omega)
      refine wp_cond_at (nm := true) rfl (by simp; omega) (fun _ => ?_) (fun h => absurd h (by decide))
      clear hd0
      go_wp2_with (first
    | (go_at_call 18; refine (r18bytes_any x.d 2 _ (by omega) (by decide)).mono ?_; rintro e w' ⟨rfl, hb⟩; replace hR := hR.grow hb; clear hb)
    | ((with_reducible apply q_ls hR); exact rfl; (with_reducible apply t_conv Try.underlying22 Try.underlying50); (apply EvC.now; exact rfl); exact HU.out; (simp only [List.set_cons_succ, List.set_cons_zero]; exact rfl); clear hR; intro w hR)
    | ((with_reducible apply q_ls hR); exact rfl; (with_reducible apply t_catE); (apply EvC.now; exact rfl); (apply EvC.now; exact rfl); (simp only [List.length_append, List.length_cons, List.length_nil]; omega); exact HC.out; (simp only [List.set_cons_succ, List.set_cons_zero]; exact rfl); clear hR; intro w hR)
    | ((with_reducible apply q_ls hR); exact rfl; ((with_reducible first | apply t_addr (fRec _ (by decide)) | apply t_addr (fFix _ (by decide)) | apply t_one tByteR | apply t_one tSlR | apply t_one tIntR | apply t_one tWordF | apply t_one tBoolF | apply t_part tFix) <;> (first | (apply EvC.gv; exact rfl; (with_reducible first | exact Imp.refl _ | (apply Imp.left; exact Imp.refl _) | (apply Imp.right; exact Imp.refl _) | (apply Imp.left; apply Imp.left; exact Imp.refl _))) | (apply EvC.now; exact rfl) | exact rfl | (with_reducible exact EvAll.nil) | (focus (repeat (first | apply EvAll.cons | exact EvAll.nil | (apply EvC.gv; exact rfl; (with_reducible first | exact Imp.refl _ | (apply Imp.left; exact Imp.refl _) | (apply Imp.right; exact Imp.refl _) | (apply Imp.left; apply Imp.left; exact Imp.refl _))) | (apply EvC.now; exact rfl))); done) | exact ext_fix _ | (focus (repeat (first | apply List.Mem.head | apply List.Mem.tail | apply List.mem_append_right))))); (simp only [List.set_cons_succ, List.set_cons_zero]; exact rfl); clear hR; intro w hR))
      go_meet
      exact ⟨rfl, hR⟩
  case rest =>
  clear hR HDB HBODY HPH HPI HC8
  obtain ⟨rfl, hR⟩ := hcut
  have hallo : bytesOk (U ++ BO) := hUo.append hbdo
  have hall : (U ++ BO).length ≤ 100000 := by rw [List.length_append]; omega
  have hbo4 : BO.length ≤ 100000 := by omega
  have hTok := thsF_ok hnm hxd a b
  have HGET : (told % 4 = 0 → getF (U ++ BO) 100 ths0 = ([x], thsF x a b, 0)) ∧ (told % 4 ≠ 0 → getF (U ++ BO) 100 ths0 = ([], ths0, 5)) := by
    rw [← HUE.out, HF.out, HG.out, ← hBO]
    constructor
    · intro h0
      rw [if_pos (by omega), if_pos (by omega), List.append_assoc]
      exact thr_back hnm hxd ha3 hb3
    · intro h0
      by_cases h1 : told % 2 = 0
      · rw [if_pos h1, if_neg (by omega), List.append_nil]
        exact thr_noT hnm ha3 hb3
      · rw [if_neg h1, List.nil_append]
        by_cases h2 : told / 2 % 2 = 0
        · rw [if_pos h2]
          exact thr_noF hnm ha3 hb3
        · rw [if_neg h2, List.nil_append]
          exact thr_none hnm ha3 hb3
  have HAGAIN := Lib.hid (show getF BO 100 (thsF x a b) = ([x], thsF x a b, 0) by rw [← hBO]; exact thr_again hnm hxd ha3 hb3)
  clear hBO HF HG HUE
  go_wp2_with (first
    | ((with_reducible apply wpList_bytesN hR Try.underlying9 Try.underlying29 Try.underlying5 hallo); exact rfl; exact rfl; clear hR; intro vm w hR hM; simp only [List.set_cons_succ, List.set_cons_zero])
    | ((with_reducible apply wpList_built); exact rfl; exact rfl; exact bThs0; (simp only [List.set_cons_succ, List.set_cons_zero]; exact rfl))
    | ((with_reducible apply q_ls hR); exact rfl; ((with_reducible first | apply t_addr (fRec _ (by decide)) | apply t_addr (fFix _ (by decide)) | apply t_one tByteR | apply t_one tSlR | apply t_one tIntR | apply t_one tWordF | apply t_one tBoolF | apply t_part tFix) <;> (first | (apply EvC.gv; exact rfl; (with_reducible first | exact Imp.refl _ | (apply Imp.left; exact Imp.refl _) | (apply Imp.right; exact Imp.refl _) | (apply Imp.left; apply Imp.left; exact Imp.refl _))) | (apply EvC.now; exact rfl) | exact rfl | (with_reducible exact EvAll.nil) | (focus (repeat (first | apply EvAll.cons | exact EvAll.nil | (apply EvC.gv; exact rfl; (with_reducible first | exact Imp.refl _ | (apply Imp.left; exact Imp.refl _) | (apply Imp.right; exact Imp.refl _) | (apply Imp.left; apply Imp.left; exact Imp.refl _))) | (apply EvC.now; exact rfl))); done) | exact ext_fix _ | (focus (repeat (first | apply List.Mem.head | apply List.Mem.tail | apply List.mem_append_right))))); (simp only [List.set_cons_succ, List.set_cons_zero]; exact rfl); clear hR; intro w hR))
  refine (fixGet_any 100 ths0 hM.src hall (by decide) ths0_ok).mono ?_
  by_cases h4 : told % 4 = 0
  · rw [HGET.1 h4]
    have HC := Lib.hid (show cmpB .gtr (told % 4) 0 = some false from congrArg some (decide_eq_false (by omega)))
    clear h4 HGET hM
    rintro e w2 ⟨v14, rfl, hb, hY⟩
    have hAt7 := (hR.at (g := g7) (cs := encF x) (t := 24) (by (focus (repeat (first | apply List.Mem.head | apply List.Mem.tail | apply List.mem_append_right))))).keep hb
    replace hR := hR.grow hb
    have hZ2 := (Since.start w0).own hR
    clear hR hb
    try clear hZ
    have hZ := hZ2
    clear hZ2
    have hR := Own.start w2
    have hT7 := hAt7.get
    have HEF := Lib.hid (ext_fr x ha3 hb3)
    have HET := Lib.hid (ext_tg x ha3 hb3)
    obtain ⟨T, hTe⟩ : ∃ T, thsF x a b = T := ⟨_, rfl⟩
    rw [hTe] at hTok HAGAIN HEF HET ⊢
    clear hTe hAt7
    obtain ⟨ay, cy, rfl, hcy⟩ := hY.el cellsF_len (i := 0) (z := x) rfl
    have HCY := Lib.hid (show ∀ j u, (encF x).toList[j]? = some u → w2.cell? ((ay.add ((0 : Int).toNat * 8)).add j) = some u from hcy)
    clear hcy
    have HDR := Lib.hid (show (U ++ BO).drop U.length = BO by simp)
    have hdo : bytesOk ((U ++ BO).drop U.length) := by rw [HDR.out]; exact hbdo
    have hUle : U.length ≤ (U ++ BO).length := by rw [List.length_append]; omega
    go_upto_if 110 with (first
    | ((with_reducible apply wpList_make hR zThs); exact rfl; clear hR; intro g15 w hR; simp only [List.set_cons_succ, List.set_cons_zero])
    | ((with_reducible apply wpList_put hR tThs); exact rfl; exact rfl; exact rfl; (focus (repeat (first | apply List.Mem.head | apply List.Mem.tail | apply List.mem_append_right))); exact put_ths _ rfl hTok; exact encThs_size hTok; (simp [encThs, cellsThs_len ths0_ok]); exact one_ths _; (focus (repeat (first | apply Upd.head | apply Upd.tail))); clear hR; intro w hR)
    | ((with_reducible apply q_ls hR); exact rfl; (with_reducible apply t_numE); (apply EvC.now; exact rfl); (apply EvC.now; exact rfl); exact rfl; (with_reducible first | exact HT3.out); (simp only [List.set_cons_succ, List.set_cons_zero]; exact rfl); clear hR; intro w hR)
    | ((with_reducible apply q_ls hR); exact rfl; (with_reducible apply t_cmp); (apply EvC.now; exact rfl); (apply EvC.now; exact rfl); exact HC.out; (simp only [List.set_cons_succ, List.set_cons_zero]; exact rfl); clear hR; intro w hR))
    refine wp_cond_at (nm := false) rfl rfl (fun h => absurd h (by decide)) (fun _ => ?_)
    go_upto_region 18 with fail
    refine wp_region_some hR _ (List.Sublist.refl _) [0, 1, 2, 3, 5] 10 (by kernel_rfl) (by kernel_rfl) (by kernel_rfl) rfl ?_
    clear hR; intro hR
    repeat (refine wpT_step rfl ?_; first
    | ((with_reducible apply q_pl); (with_reducible apply t_lenN Try.underlying9); (apply EvC.now; exact rfl); (simp only [List.set_cons_succ, List.set_cons_zero]; exact rfl))
    | ((with_reducible apply q_pl); (with_reducible apply t_dropN (k := U.length) Try.underlying9); (apply EvC.now; exact rfl); (apply EvC.now; exact rfl); exact rfl; exact hUle; (simp only [List.set_cons_succ, List.set_cons_zero]; exact rfl))
    | ((with_reducible apply q_pl); (with_reducible apply t_part tThs); (apply EvC.now; exact rfl); (exact .head _); exact ext_ths hTok; exact encThs_size hTok; (simp only [List.set_cons_succ, List.set_cons_zero]; exact rfl))
    | ((first | (with_reducible apply q_pl) | ((with_reducible apply q_gd); (first | (apply GdBy.gt; exact rfl; exact rfl) | (apply GdBy.gf; exact rfl; exact rfl) | (apply GdBy.t; exact rfl; exact rfl) | (apply GdBy.f; exact rfl; exact rfl)))); (first | ((with_reducible first | apply t_move | apply t_assign | apply t_and | apply t_or | apply t_cmp | apply t_not | apply t_addr (fRec _ (by decide)) | apply t_addr (fFix _ (by decide)) | apply t_one tByteR | apply t_one tSlR | apply t_one tIntR | apply t_one tWordF | apply t_one tBoolF | apply t_part tFix) <;> (first | (apply EvC.gv; exact rfl; (with_reducible first | exact Imp.refl _ | (apply Imp.left; exact Imp.refl _) | (apply Imp.right; exact Imp.refl _) | (apply Imp.left; apply Imp.left; exact Imp.refl _))) | (apply EvC.now; exact rfl) | exact rfl | (with_reducible exact EvAll.nil) | (focus (repeat (first | apply EvAll.cons | exact EvAll.nil | (apply EvC.gv; exact rfl; (with_reducible first | exact Imp.refl _ | (apply Imp.left; exact Imp.refl _) | (apply Imp.right; exact Imp.refl _) | (apply Imp.left; apply Imp.left; exact Imp.refl _))) | (apply EvC.now; exact rfl))); done) | exact ext_fix _ | (focus (repeat (first | apply List.Mem.head | apply List.Mem.tail | apply List.mem_append_right)))))); (simp only [List.set_cons_succ, List.set_cons_zero]; exact rfl)))
    refine wpT_nil ?_
    refine wpG_twoB hR (i := 4) (j := 11) (by kernel_rfl) ?_ ?_
    · clear hR; intro w hR hb
      refine opBytesN hR Try.underlying9 Try.underlying29 Try.underlying5 hdo rfl rfl rfl ?_
      clear hR; intro vm wm hR hM
      rw [HDR.out] at hM
      refine ⟨hR.drop (List.Sublist.refl _), ?_⟩
      simp only [List.set_cons_succ, List.set_cons_zero]
      refine wpG_twoB hR (i := 6) (j := 11) (by kernel_rfl) ?_ ?_
      · clear hb hR; intro w hR hb
        refine opCallO hR Try.call16 rfl rfl rfl ?_
        refine (fixGet_own 100 T (hM.keep hb) hbo4 (by decide) hTok).mono ?_
        rw [HAGAIN.out]
        rintro en w6 ⟨sg, v17, rfl, hO, hV⟩
        replace hR := hR.join hO
        clear hO
        skip
        refine ⟨_, rfl, hR.drop (List.sublist_append_right _ _), ?_⟩
        simp only [List.set_cons_succ, List.set_cons_zero]
        refine wpG_of_wpT (by kernel_rfl) (fun _ _ _ h => h) 4 _ [7, 8, 9, 10] _ _ (by kernel_rfl) ?_
        repeat (refine wpT_step rfl ?_; first
            | ((with_reducible apply q_kn); exact rfl; (first | ((with_reducible first | apply t_move | apply t_assign | apply t_addr (fRec _ (by decide)) | apply t_addr (fFix _ (by decide)) | apply t_one tByteR | apply t_one tSlR | apply t_one tIntR | apply t_one tWordF | apply t_one tBoolF | apply t_part tFix) <;> (first | (apply EvC.gv; exact rfl; (with_reducible first | exact Imp.refl _ | (apply Imp.left; exact Imp.refl _) | (apply Imp.right; exact Imp.refl _) | (apply Imp.left; apply Imp.left; exact Imp.refl _))) | (apply EvC.now; exact rfl) | exact rfl | (with_reducible exact EvAll.nil) | (focus (repeat (first | apply EvAll.cons | exact EvAll.nil | (apply EvC.gv; exact rfl; (with_reducible first | exact Imp.refl _ | (apply Imp.left; exact Imp.refl _) | (apply Imp.right; exact Imp.refl _) | (apply Imp.left; apply Imp.left; exact Imp.refl _))) | (apply EvC.now; exact rfl))); done) | exact ext_fix _ | (focus (repeat (first | apply List.Mem.head | apply List.Mem.tail | apply List.mem_append_right))))) | ((with_reducible apply t_pick); (apply EvC.now; exact rfl); (apply EvC.now; exact rfl))); (simp only [List.set_cons_succ, List.set_cons_zero]; exact rfl))
            | ((with_reducible apply q_gd); (first | (apply GdBy.gt; exact rfl; exact rfl) | (apply GdBy.gf; exact rfl; exact rfl) | (apply GdBy.t; exact rfl; exact rfl) | (apply GdBy.f; exact rfl; exact rfl)); ((with_reducible apply t_num) <;> (first | (apply EvC.gv; exact rfl; (with_reducible first | exact Imp.refl _ | (apply Imp.left; exact Imp.refl _) | (apply Imp.right; exact Imp.refl _) | (apply Imp.left; apply Imp.left; exact Imp.refl _))) | (apply EvC.now; exact rfl) | exact rfl | (with_reducible exact EvAll.nil) | (focus (repeat (first | apply EvAll.cons | exact EvAll.nil | (apply EvC.gv; exact rfl; (with_reducible first | exact Imp.refl _ | (apply Imp.left; exact Imp.refl _) | (apply Imp.right; exact Imp.refl _) | (apply Imp.left; apply Imp.left; exact Imp.refl _))) | (apply EvC.now; exact rfl))); done) | exact ext_fix _ | (focus (repeat (first | apply List.Mem.head | apply List.Mem.tail | apply List.mem_append_right))))); (simp only [List.set_cons_succ, List.set_cons_zero]; exact rfl))
            | ((with_reducible apply wpT1_gpure); (first | (apply GdBy.gt; exact rfl; exact rfl) | (apply GdBy.gf; exact rfl; exact rfl) | (apply GdBy.t; exact rfl; exact rfl) | (apply GdBy.f; exact rfl; exact rfl)); intro K hK; go_simp; refine hK _ ?_; clear hK K; simp only [List.set_cons_succ, List.set_cons_zero])
            | ((with_reducible apply wpT1_pure); exact rfl; intro K hK; go_simp; refine hK _ ?_; clear hK K; simp only [List.set_cons_succ, List.set_cons_zero]))
        refine wpT_nil ?_
        refine wpG_oneB hR (i := 11) (by kernel_rfl) ?_
        clear hR; intro w hR hb2
        refine opMakeB hR zThs rfl ?_
        clear hR; intro g18 wa hR hba
        refine ⟨hR.drop (List.Sublist.cons _ (List.sublist_append_right _ _)), ?_⟩
        simp only [List.set_cons_succ, List.set_cons_zero]
        refine wpG_slot hR (i := 12) (by kernel_rfl) rfl rfl (by (simp only [List.set_cons_succ, List.set_cons_zero]; exact rfl)) ?_
        clear hR; intro w hR
        refine wpG_put hR tThs (i := 13) (by kernel_rfl) rfl rfl rfl (.head _) (put_ths _ rfl hTok) (encThs_size hTok) (by simp [encThs, cellsThs_len ths0_ok]) (one_ths _) Upd.head (List.Sublist.cons _ (List.sublist_append_right _ _)) ?_
        clear hR; intro w hR
        refine wpG_slot hR (i := 14) (by kernel_rfl) rfl rfl (by (simp only [List.set_cons_succ, List.set_cons_zero]; exact rfl)) ?_
        clear hR; intro w hR
        refine wpG_end hR (by kernel_rfl) ?_
        clear hR; intro w hR
        have hVn := hV _ _ _ hR (fun r h => .tail _ (List.mem_append_left _ h))
        obtain ⟨az, cz, rfl, _⟩ := hVn.el cellsF_len (i := 0) (z := x) rfl
        go_upto_region 20 with (first
            | ((with_reducible apply q_ls hR); exact rfl; (with_reducible apply t_old tIntR hT7); (apply EvC.now; exact rfl); exact rfl; (simp only [List.set_cons_succ, List.set_cons_zero]; exact rfl); clear hR; intro w hR)
            | ((with_reducible apply wpList_built); exact rfl; exact rfl; exact bThr _ _; (simp only [List.set_cons_succ, List.set_cons_zero]; exact rfl))
            | ((with_reducible apply wpList_make hR zThr); exact rfl; clear hR; intro g20 w hR; simp only [List.set_cons_succ, List.set_cons_zero])
            | ((with_reducible apply wpList_put hR tThr); exact rfl; exact rfl; exact rfl; (focus (repeat (first | apply List.Mem.head | apply List.Mem.tail | apply List.mem_append_right))); exact put_thr _; exact rfl; simp [encThr]; exact one_thr _; (focus (repeat (first | apply Upd.head | apply Upd.tail))); clear hR; intro w hR)
            | ((with_reducible apply q_ls hR); exact rfl; ((with_reducible first | apply t_addr (fRec _ (by decide)) | apply t_addr (fFix _ (by decide)) | apply t_one tByteR | apply t_one tSlR | apply t_one tIntR | apply t_one tWordF | apply t_one tBoolF | apply t_part tFix) <;> (first | (apply EvC.gv; exact rfl; (with_reducible first | exact Imp.refl _ | (apply Imp.left; exact Imp.refl _) | (apply Imp.right; exact Imp.refl _) | (apply Imp.left; apply Imp.left; exact Imp.refl _))) | (apply EvC.now; exact rfl) | exact rfl | (with_reducible exact EvAll.nil) | (focus (repeat (first | apply EvAll.cons | exact EvAll.nil | (apply EvC.gv; exact rfl; (with_reducible first | exact Imp.refl _ | (apply Imp.left; exact Imp.refl _) | (apply Imp.right; exact Imp.refl _) | (apply Imp.left; apply Imp.left; exact Imp.refl _))) | (apply EvC.now; exact rfl))); done) | exact ext_fix _ | (focus (repeat (first | apply List.Mem.head | apply List.Mem.tail | apply List.mem_append_right))))); (simp only [List.set_cons_succ, List.set_cons_zero]; exact rfl); clear hR; intro w hR))
        obtain ⟨L, hm15, hm20, hsg, hRL⟩ : ∃ L, (g15, encThs T, 42) ∈ L ∧ (g20, encThr (frThr x), 39) ∈ L ∧ (∀ r ∈ sg, r ∈ L) ∧ Own w2 _ L := ⟨_, by (focus (repeat (first | apply List.Mem.head | apply List.Mem.tail | apply List.mem_append_right))), by (focus (repeat (first | apply List.Mem.head | apply List.Mem.tail | apply List.mem_append_right))), (by intro r h; exact .tail _ (.tail _ (List.mem_append_left _ h))), hR⟩
        clear hR
        have hR := hRL
        clear hRL
        have HZM := Lib.hid (show ∀ w, Own w2 w L → ∀ j u, (encF x).toList[j]? = some u → w.cell? ((az.add ((0 : Int).toNat * 8)).add j) = some u from fun w hC => RowsAt.cell cellsF_len (i := 0) (hV _ _ _ hC hsg) rfl)
        refine wp_region_rows hR [0, 1, 2, 3, 4, 5, 6, 7, 8, 9, 10, 11, 12, 13, 14, 15, 16, 17, 18, 19, 20, 21, 22, 23, 24, 25, 26, 27, 28, 29, 30, 31, 32, 33, 34, 35, 36, 37, 38, 39, 40, 41, 42, 43, 44, 45, 46, 47, 48, 49, 50, 51, 52, 53] 0 (by kernel_rfl) (by kernel_rfl) (by kernel_rfl) rfl ?_
        clear hR; intro hR
        repeat (refine wpT_step rfl ?_; first
            | ((with_reducible apply q_kn); exact rfl; (with_reducible apply t_call Try.call9); (first | (apply EvC.gv; exact rfl; (with_reducible first | exact Imp.refl _ | (apply Imp.left; exact Imp.refl _) | (apply Imp.right; exact Imp.refl _) | (apply Imp.left; apply Imp.left; exact Imp.refl _))) | (apply EvC.now; exact rfl) | exact rfl | (with_reducible exact EvAll.nil) | (focus (repeat (first | apply EvAll.cons | exact EvAll.nil | (apply EvC.gv; exact rfl; (with_reducible first | exact Imp.refl _ | (apply Imp.left; exact Imp.refl _) | (apply Imp.right; exact Imp.refl _) | (apply Imp.left; apply Imp.left; exact Imp.refl _))) | (apply EvC.now; exact rfl))); done) | exact ext_fix _ | (focus (repeat (first | apply List.Mem.head | apply List.Mem.tail | apply List.mem_append_right)))); (intro hcc w hC; exact tame_below (awake25_any _) hC); (simp only [List.set_cons_succ, List.set_cons_zero]; exact rfl))
            | ((with_reducible apply q_kn); exact rfl; (with_reducible apply t_lenRd Try.underlying34); (apply EvC.now; exact rfl); (first | exact hY | exact hVn); (simp only [List.set_cons_succ, List.set_cons_zero]; exact rfl))
            | ((with_reducible apply q_kn); exact rfl; (with_reducible apply t_cmp); (apply EvC.now; exact rfl); (apply EvC.now; exact rfl); (with_reducible first | exact l1F | exact cmp_selfS _); (simp only [List.set_cons_succ, List.set_cons_zero]; exact rfl))
            | ((with_reducible apply q_kn); exact rfl; (with_reducible apply t_six Try.underlying34 iFix); (apply EvC.now; exact rfl); (apply EvC.now; exact rfl); (constructor <;> simp); (simp only [List.set_cons_succ, List.set_cons_zero]; exact rfl))
            | ((with_reducible apply q_kn); exact rfl; (with_reducible apply t_oldMany tFix); (apply EvC.now; exact rfl); exact HCY.out; exact rfl; (simp only [List.set_cons_succ, List.set_cons_zero]; exact rfl))
            | ((with_reducible apply q_kn); exact rfl; (with_reducible apply t_manyW tFix); (apply EvC.now; exact rfl); (exact HZM.out); exact rfl; (simp only [List.set_cons_succ, List.set_cons_zero]; exact rfl))
            | ((with_reducible apply q_kn); exact rfl; (with_reducible apply t_oldRow tFix hT7); (apply EvC.now; exact rfl); exact ext_fix _; exact rfl; (simp only [List.set_cons_succ, List.set_cons_zero]; exact rfl))
            | ((with_reducible apply q_kn); exact rfl; (with_reducible apply t_eql gFix); (apply EvC.now; exact rfl); (apply EvC.now; exact rfl); exact eqF_self _; (simp only [List.set_cons_succ, List.set_cons_zero]; exact rfl))
            | ((with_reducible apply q_kn); exact rfl; (with_reducible apply t_addr (fThs _ (by decide))); (apply EvC.now; exact rfl); (simp only [List.set_cons_succ, List.set_cons_zero]; exact rfl))
            | ((with_reducible apply q_kn); exact rfl; (with_reducible apply t_pixK Try.underlying40 iThr); (apply EvC.now; exact rfl); (apply EvC.now; exact rfl); (constructor <;> omega); (simp only [List.set_cons_succ, List.set_cons_zero]; exact rfl))
            | ((with_reducible apply q_kn); exact rfl; (with_reducible apply t_part tThr); (apply EvC.now; exact rfl); (first | exact hm15 | exact hm20); (first | exact HEF.out | exact HET.out | exact ext_thr _); exact rfl; (simp only [List.set_cons_succ, List.set_cons_zero]; exact rfl))
            | ((with_reducible apply q_kn); exact rfl; (with_reducible apply t_old tIntR hT7); (apply EvC.now; exact rfl); exact rfl; (simp only [List.set_cons_succ, List.set_cons_zero]; exact rfl))
            | ((with_reducible apply q_kn); exact rfl; (with_reducible apply t_built); exact rfl; exact bThr _ _; (simp only [List.set_cons_succ, List.set_cons_zero]; exact rfl))
            | ((with_reducible apply q_kn); exact rfl; (with_reducible apply t_eql gThr); (apply EvC.now; exact rfl); (apply EvC.now; exact rfl); exact eqThr_self _ _; (simp only [List.set_cons_succ, List.set_cons_zero]; exact rfl))
            | ((with_reducible apply q_kn); exact rfl; (first | ((with_reducible first | apply t_move | apply t_assign | apply t_addr (fRec _ (by decide)) | apply t_addr (fFix _ (by decide)) | apply t_one tByteR | apply t_one tSlR | apply t_one tIntR | apply t_one tWordF | apply t_one tBoolF | apply t_part tFix) <;> (first | (apply EvC.gv; exact rfl; (with_reducible first | exact Imp.refl _ | (apply Imp.left; exact Imp.refl _) | (apply Imp.right; exact Imp.refl _) | (apply Imp.left; apply Imp.left; exact Imp.refl _))) | (apply EvC.now; exact rfl) | exact rfl | (with_reducible exact EvAll.nil) | (focus (repeat (first | apply EvAll.cons | exact EvAll.nil | (apply EvC.gv; exact rfl; (with_reducible first | exact Imp.refl _ | (apply Imp.left; exact Imp.refl _) | (apply Imp.right; exact Imp.refl _) | (apply Imp.left; apply Imp.left; exact Imp.refl _))) | (apply EvC.now; exact rfl))); done) | exact ext_fix _ | (focus (repeat (first | apply List.Mem.head | apply List.Mem.tail | apply List.mem_append_right))))) | ((with_reducible apply t_pick); (apply EvC.now; exact rfl); (apply EvC.now; exact rfl))); (simp only [List.set_cons_succ, List.set_cons_zero]; exact rfl)))
        refine wpG_end hR (by kernel_rfl) ?_
        clear hR; intro w hR
        go_wp2_with fail
        go_ret
        exact ⟨rfl, (hZ.own hR).below⟩
      · clear hb hR; intro w hR hb
        replace hM := hM.keep hb
        clear hb
        refine opMakeB hR zThs rfl ?_
        clear hR; intro g18 wa hR hba
        refine ⟨hR.drop (List.Sublist.cons _ (List.Sublist.refl _)), ?_⟩
        simp only [List.set_cons_succ, List.set_cons_zero]
        replace hM := hM.keep hba
        refine wpG_oneB hR (i := 6) (by kernel_rfl) ?_
        clear hR; intro w hR hb
        refine opCallO hR Try.call16 rfl rfl rfl ?_
        refine (fixGet_own 100 T (hM.keep hb) hbo4 (by decide) hTok).mono ?_
        rw [HAGAIN.out]
        rintro en w6 ⟨sg, v17, rfl, hO, hV⟩
        replace hR := hR.join hO
        clear hO
        replace hR := hR.perm List.perm_middle.symm
        refine ⟨_, rfl, hR.drop (List.Sublist.cons _ (List.sublist_append_right _ _)), ?_⟩
        simp only [List.set_cons_succ, List.set_cons_zero]
        refine wpG_of_wpT (by kernel_rfl) (fun _ _ _ h => h) 3 _ [7, 8, 9, 10] _ _ (by kernel_rfl) ?_
        repeat (refine wpT_step rfl ?_; first
            | ((with_reducible apply q_kn); exact rfl; (first | ((with_reducible first | apply t_move | apply t_assign | apply t_addr (fRec _ (by decide)) | apply t_addr (fFix _ (by decide)) | apply t_one tByteR | apply t_one tSlR | apply t_one tIntR | apply t_one tWordF | apply t_one tBoolF | apply t_part tFix) <;> (first | (apply EvC.gv; exact rfl; (with_reducible first | exact Imp.refl _ | (apply Imp.left; exact Imp.refl _) | (apply Imp.right; exact Imp.refl _) | (apply Imp.left; apply Imp.left; exact Imp.refl _))) | (apply EvC.now; exact rfl) | exact rfl | (with_reducible exact EvAll.nil) | (focus (repeat (first | apply EvAll.cons | exact EvAll.nil | (apply EvC.gv; exact rfl; (with_reducible first | exact Imp.refl _ | (apply Imp.left; exact Imp.refl _) | (apply Imp.right; exact Imp.refl _) | (apply Imp.left; apply Imp.left; exact Imp.refl _))) | (apply EvC.now; exact rfl))); done) | exact ext_fix _ | (focus (repeat (first | apply List.Mem.head | apply List.Mem.tail | apply List.mem_append_right))))) | ((with_reducible apply t_pick); (apply EvC.now; exact rfl); (apply EvC.now; exact rfl))); (simp only [List.set_cons_succ, List.set_cons_zero]; exact rfl))
            | ((with_reducible apply q_gd); (first | (apply GdBy.gt; exact rfl; exact rfl) | (apply GdBy.gf; exact rfl; exact rfl) | (apply GdBy.t; exact rfl; exact rfl) | (apply GdBy.f; exact rfl; exact rfl)); ((with_reducible apply t_num) <;> (first | (apply EvC.gv; exact rfl; (with_reducible first | exact Imp.refl _ | (apply Imp.left; exact Imp.refl _) | (apply Imp.right; exact Imp.refl _) | (apply Imp.left; apply Imp.left; exact Imp.refl _))) | (apply EvC.now; exact rfl) | exact rfl | (with_reducible exact EvAll.nil) | (focus (repeat (first | apply EvAll.cons | exact EvAll.nil | (apply EvC.gv; exact rfl; (with_reducible first | exact Imp.refl _ | (apply Imp.left; exact Imp.refl _) | (apply Imp.right; exact Imp.refl _) | (apply Imp.left; apply Imp.left; exact Imp.refl _))) | (apply EvC.now; exact rfl))); done) | exact ext_fix _ | (focus (repeat (first | apply List.Mem.head | apply List.Mem.tail | apply List.mem_append_right))))); (simp only [List.set_cons_succ, List.set_cons_zero]; exact rfl))
            | ((with_reducible apply wpT1_gpure); (first | (apply GdBy.gt; exact rfl; exact rfl) | (apply GdBy.gf; exact rfl; exact rfl) | (apply GdBy.t; exact rfl; exact rfl) | (apply GdBy.f; exact rfl; exact rfl)); intro K hK; go_simp; refine hK _ ?_; clear hK K; simp only [List.set_cons_succ, List.set_cons_zero])
            | ((with_reducible apply wpT1_pure); exact rfl; intro K hK; go_simp; refine hK _ ?_; clear hK K; simp only [List.set_cons_succ, List.set_cons_zero]))
        refine wpT_nil ?_
        refine wpG_slot hR (i := 12) (by kernel_rfl) rfl rfl (by (simp only [List.set_cons_succ, List.set_cons_zero]; exact rfl)) ?_
        clear hR; intro w hR
        refine wpG_put hR tThs (i := 13) (by kernel_rfl) rfl rfl rfl (.head _) (put_ths _ rfl hTok) (encThs_size hTok) (by simp [encThs, cellsThs_len ths0_ok]) (one_ths _) Upd.head (List.Sublist.cons _ (List.sublist_append_right _ _)) ?_
        clear hR; intro w hR
        refine wpG_slot hR (i := 14) (by kernel_rfl) rfl rfl (by (simp only [List.set_cons_succ, List.set_cons_zero]; exact rfl)) ?_
        clear hR; intro w hR
        refine wpG_end hR (by kernel_rfl) ?_
        clear hR; intro w hR
        have hVn := hV _ _ _ hR (fun r h => .tail _ (List.mem_append_left _ h))
        obtain ⟨az, cz, rfl, _⟩ := hVn.el cellsF_len (i := 0) (z := x) rfl
        go_upto_region 20 with (first
            | ((with_reducible apply q_ls hR); exact rfl; (with_reducible apply t_old tIntR hT7); (apply EvC.now; exact rfl); exact rfl; (simp only [List.set_cons_succ, List.set_cons_zero]; exact rfl); clear hR; intro w hR)
            | ((with_reducible apply wpList_built); exact rfl; exact rfl; exact bThr _ _; (simp only [List.set_cons_succ, List.set_cons_zero]; exact rfl))
            | ((with_reducible apply wpList_make hR zThr); exact rfl; clear hR; intro g20 w hR; simp only [List.set_cons_succ, List.set_cons_zero])
            | ((with_reducible apply wpList_put hR tThr); exact rfl; exact rfl; exact rfl; (focus (repeat (first | apply List.Mem.head | apply List.Mem.tail | apply List.mem_append_right))); exact put_thr _; exact rfl; simp [encThr]; exact one_thr _; (focus (repeat (first | apply Upd.head | apply Upd.tail))); clear hR; intro w hR)
            | ((with_reducible apply q_ls hR); exact rfl; ((with_reducible first | apply t_addr (fRec _ (by decide)) | apply t_addr (fFix _ (by decide)) | apply t_one tByteR | apply t_one tSlR | apply t_one tIntR | apply t_one tWordF | apply t_one tBoolF | apply t_part tFix) <;> (first | (apply EvC.gv; exact rfl; (with_reducible first | exact Imp.refl _ | (apply Imp.left; exact Imp.refl _) | (apply Imp.right; exact Imp.refl _) | (apply Imp.left; apply Imp.left; exact Imp.refl _))) | (apply EvC.now; exact rfl) | exact rfl | (with_reducible exact EvAll.nil) | (focus (repeat (first | apply EvAll.cons | exact EvAll.nil | (apply EvC.gv; exact rfl; (with_reducible first | exact Imp.refl _ | (apply Imp.left; exact Imp.refl _) | (apply Imp.right; exact Imp.refl _) | (apply Imp.left; apply Imp.left; exact Imp.refl _))) | (apply EvC.now; exact rfl))); done) | exact ext_fix _ | (focus (repeat (first | apply List.Mem.head | apply List.Mem.tail | apply List.mem_append_right))))); (simp only [List.set_cons_succ, List.set_cons_zero]; exact rfl); clear hR; intro w hR))
        obtain ⟨L, hm15, hm20, hsg, hRL⟩ : ∃ L, (g15, encThs T, 42) ∈ L ∧ (g20, encThr (frThr x), 39) ∈ L ∧ (∀ r ∈ sg, r ∈ L) ∧ Own w2 _ L := ⟨_, by (focus (repeat (first | apply List.Mem.head | apply List.Mem.tail | apply List.mem_append_right))), by (focus (repeat (first | apply List.Mem.head | apply List.Mem.tail | apply List.mem_append_right))), (by intro r h; exact .tail _ (.tail _ (List.mem_append_left _ h))), hR⟩
        clear hR
        have hR := hRL
        clear hRL
        have HZM := Lib.hid (show ∀ w, Own w2 w L → ∀ j u, (encF x).toList[j]? = some u → w.cell? ((az.add ((0 : Int).toNat * 8)).add j) = some u from fun w hC => RowsAt.cell cellsF_len (i := 0) (hV _ _ _ hC hsg) rfl)
        refine wp_region_rows hR [0, 1, 2, 3, 4, 5, 6, 7, 8, 9, 10, 11, 12, 13, 14, 15, 16, 17, 18, 19, 20, 21, 22, 23, 24, 25, 26, 27, 28, 29, 30, 31, 32, 33, 34, 35, 36, 37, 38, 39, 40, 41, 42, 43, 44, 45, 46, 47, 48, 49, 50, 51, 52, 53] 0 (by kernel_rfl) (by kernel_rfl) (by kernel_rfl) rfl ?_
        clear hR; intro hR
        repeat (refine wpT_step rfl ?_; first
            | ((with_reducible apply q_kn); exact rfl; (with_reducible apply t_call Try.call9); (first | (apply EvC.gv; exact rfl; (with_reducible first | exact Imp.refl _ | (apply Imp.left; exact Imp.refl _) | (apply Imp.right; exact Imp.refl _) | (apply Imp.left; apply Imp.left; exact Imp.refl _))) | (apply EvC.now; exact rfl) | exact rfl | (with_reducible exact EvAll.nil) | (focus (repeat (first | apply EvAll.cons | exact EvAll.nil | (apply EvC.gv; exact rfl; (with_reducible first | exact Imp.refl _ | (apply Imp.left; exact Imp.refl _) | (apply Imp.right; exact Imp.refl _) | (apply Imp.left; apply Imp.left; exact Imp.refl _))) | (apply EvC.now; exact rfl))); done) | exact ext_fix _ | (focus (repeat (first | apply List.Mem.head | apply List.Mem.tail | apply List.mem_append_right)))); (intro hcc w hC; exact tame_below (awake25_any _) hC); (simp only [List.set_cons_succ, List.set_cons_zero]; exact rfl))
            | ((with_reducible apply q_kn); exact rfl; (with_reducible apply t_lenRd Try.underlying34); (apply EvC.now; exact rfl); (first | exact hY | exact hVn); (simp only [List.set_cons_succ, List.set_cons_zero]; exact rfl))
            | ((with_reducible apply q_kn); exact rfl; (with_reducible apply t_cmp); (apply EvC.now; exact rfl); (apply EvC.now; exact rfl); (with_reducible first | exact l1F | exact cmp_selfS _); (simp only [List.set_cons_succ, List.set_cons_zero]; exact rfl))
            | ((with_reducible apply q_kn); exact rfl; (with_reducible apply t_six Try.underlying34 iFix); (apply EvC.now; exact rfl); (apply EvC.now; exact rfl); (constructor <;> simp); (simp only [List.set_cons_succ, List.set_cons_zero]; exact rfl))
            | ((with_reducible apply q_kn); exact rfl; (with_reducible apply t_oldMany tFix); (apply EvC.now; exact rfl); exact HCY.out; exact rfl; (simp only [List.set_cons_succ, List.set_cons_zero]; exact rfl))
            | ((with_reducible apply q_kn); exact rfl; (with_reducible apply t_manyW tFix); (apply EvC.now; exact rfl); (exact HZM.out); exact rfl; (simp only [List.set_cons_succ, List.set_cons_zero]; exact rfl))
            | ((with_reducible apply q_kn); exact rfl; (with_reducible apply t_oldRow tFix hT7); (apply EvC.now; exact rfl); exact ext_fix _; exact rfl; (simp only [List.set_cons_succ, List.set_cons_zero]; exact rfl))
            | ((with_reducible apply q_kn); exact rfl; (with_reducible apply t_eql gFix); (apply EvC.now; exact rfl); (apply EvC.now; exact rfl); exact eqF_self _; (simp only [List.set_cons_succ, List.set_cons_zero]; exact rfl))
            | ((with_reducible apply q_kn); exact rfl; (with_reducible apply t_addr (fThs _ (by decide))); (apply EvC.now; exact rfl); (simp only [List.set_cons_succ, List.set_cons_zero]; exact rfl))
            | ((with_reducible apply q_kn); exact rfl; (with_reducible apply t_pixK Try.underlying40 iThr); (apply EvC.now; exact rfl); (apply EvC.now; exact rfl); (constructor <;> omega); (simp only [List.set_cons_succ, List.set_cons_zero]; exact rfl))
            | ((with_reducible apply q_kn); exact rfl; (with_reducible apply t_part tThr); (apply EvC.now; exact rfl); (first | exact hm15 | exact hm20); (first | exact HEF.out | exact HET.out | exact ext_thr _); exact rfl; (simp only [List.set_cons_succ, List.set_cons_zero]; exact rfl))
            | ((with_reducible apply q_kn); exact rfl; (with_reducible apply t_old tIntR hT7); (apply EvC.now; exact rfl); exact rfl; (simp only [List.set_cons_succ, List.set_cons_zero]; exact rfl))
            | ((with_reducible apply q_kn); exact rfl; (with_reducible apply t_built); exact rfl; exact bThr _ _; (simp only [List.set_cons_succ, List.set_cons_zero]; exact rfl))
            | ((with_reducible apply q_kn); exact rfl; (with_reducible apply t_eql gThr); (apply EvC.now; exact rfl); (apply EvC.now; exact rfl); exact eqThr_self _ _; (simp only [List.set_cons_succ, List.set_cons_zero]; exact rfl))
            | ((with_reducible apply q_kn); exact rfl; (first | ((with_reducible first | apply t_move | apply t_assign | apply t_addr (fRec _ (by decide)) | apply t_addr (fFix _ (by decide)) | apply t_one tByteR | apply t_one tSlR | apply t_one tIntR | apply t_one tWordF | apply t_one tBoolF | apply t_part tFix) <;> (first | (apply EvC.gv; exact rfl; (with_reducible first | exact Imp.refl _ | (apply Imp.left; exact Imp.refl _) | (apply Imp.right; exact Imp.refl _) | (apply Imp.left; apply Imp.left; exact Imp.refl _))) | (apply EvC.now; exact rfl) | exact rfl | (with_reducible exact EvAll.nil) | (focus (repeat (first | apply EvAll.cons | exact EvAll.nil | (apply EvC.gv; exact rfl; (with_reducible first | exact Imp.refl _ | (apply Imp.left; exact Imp.refl _) | (apply Imp.right; exact Imp.refl _) | (apply Imp.left; apply Imp.left; exact Imp.refl _))) | (apply EvC.now; exact rfl))); done) | exact ext_fix _ | (focus (repeat (first | apply List.Mem.head | apply List.Mem.tail | apply List.mem_append_right))))) | ((with_reducible apply t_pick); (apply EvC.now; exact rfl); (apply EvC.now; exact rfl))); (simp only [List.set_cons_succ, List.set_cons_zero]; exact rfl)))
        refine wpG_end hR (by kernel_rfl) ?_
        clear hR; intro w hR
        go_wp2_with fail
        go_ret
        exact ⟨rfl, (hZ.own hR).below⟩
    · clear hR; intro w hR hb
      clear hb
      refine opMakeB hR zThs rfl ?_
      clear hR; intro g18 wa hR hba
      refine ⟨hR.drop (List.Sublist.cons _ (List.Sublist.refl _)), ?_⟩
      simp only [List.set_cons_succ, List.set_cons_zero]
      refine wpG_oneB hR (i := 4) (by kernel_rfl) ?_
      clear hR; intro w hR hb
      refine opBytesN hR Try.underlying9 Try.underlying29 Try.underlying5 hdo rfl rfl rfl ?_
      clear hR; intro vm wm hR hM
      rw [HDR.out] at hM
      refine ⟨hR.drop (List.Sublist.cons _ (List.Sublist.refl _)), ?_⟩
      simp only [List.set_cons_succ, List.set_cons_zero]
      refine wpG_oneB hR (i := 6) (by kernel_rfl) ?_
      clear hb hR; intro w hR hb
      refine opCallO hR Try.call16 rfl rfl rfl ?_
      refine (fixGet_own 100 T (hM.keep hb) hbo4 (by decide) hTok).mono ?_
      rw [HAGAIN.out]
      rintro en w6 ⟨sg, v17, rfl, hO, hV⟩
      replace hR := hR.join hO
      clear hO
      replace hR := hR.perm List.perm_middle.symm
      refine ⟨_, rfl, hR.drop (List.Sublist.cons _ (List.sublist_append_right _ _)), ?_⟩
      simp only [List.set_cons_succ, List.set_cons_zero]
      refine wpG_of_wpT (by kernel_rfl) (fun _ _ _ h => h) 3 _ [7, 8, 9, 10] _ _ (by kernel_rfl) ?_
      repeat (refine wpT_step rfl ?_; first
          | ((with_reducible apply q_kn); exact rfl; (first | ((with_reducible first | apply t_move | apply t_assign | apply t_addr (fRec _ (by decide)) | apply t_addr (fFix _ (by decide)) | apply t_one tByteR | apply t_one tSlR | apply t_one tIntR | apply t_one tWordF | apply t_one tBoolF | apply t_part tFix) <;> (first | (apply EvC.gv; exact rfl; (with_reducible first | exact Imp.refl _ | (apply Imp.left; exact Imp.refl _) | (apply Imp.right; exact Imp.refl _) | (apply Imp.left; apply Imp.left; exact Imp.refl _))) | (apply EvC.now; exact rfl) | exact rfl | (with_reducible exact EvAll.nil) | (focus (repeat (first | apply EvAll.cons | exact EvAll.nil | (apply EvC.gv; exact rfl; (with_reducible first | exact Imp.refl _ | (apply Imp.left; exact Imp.refl _) | (apply Imp.right; exact Imp.refl _) | (apply Imp.left; apply Imp.left; exact Imp.refl _))) | (apply EvC.now; exact rfl))); done) | exact ext_fix _ | (focus (repeat (first | apply List.Mem.head | apply List.Mem.tail | apply List.mem_append_right))))) | ((with_reducible apply t_pick); (apply EvC.now; exact rfl); (apply EvC.now; exact rfl))); (simp only [List.set_cons_succ, List.set_cons_zero]; exact rfl))
          | ((with_reducible apply q_gd); (first | (apply GdBy.gt; exact rfl; exact rfl) | (apply GdBy.gf; exact rfl; exact rfl) | (apply GdBy.t; exact rfl; exact rfl) | (apply GdBy.f; exact rfl; exact rfl)); ((with_reducible apply t_num) <;> (first | (apply EvC.gv; exact rfl; (with_reducible first | exact Imp.refl _ | (apply Imp.left; exact Imp.refl _) | (apply Imp.right; exact Imp.refl _) | (apply Imp.left; apply Imp.left; exact Imp.refl _))) | (apply EvC.now; exact rfl) | exact rfl | (with_reducible exact EvAll.nil) | (focus (repeat (first | apply EvAll.cons | exact EvAll.nil | (apply EvC.gv; exact rfl; (with_reducible first | exact Imp.refl _ | (apply Imp.left; exact Imp.refl _) | (apply Imp.right; exact Imp.refl _) | (apply Imp.left; apply Imp.left; exact Imp.refl _))) | (apply EvC.now; exact rfl))); done) | exact ext_fix _ | (focus (repeat (first | apply List.Mem.head | apply List.Mem.tail | apply List.mem_append_right))))); (simp only [List.set_cons_succ, List.set_cons_zero]; exact rfl))
          | ((with_reducible apply wpT1_gpure); (first | (apply GdBy.gt; exact rfl; exact rfl) | (apply GdBy.gf; exact rfl; exact rfl) | (apply GdBy.t; exact rfl; exact rfl) | (apply GdBy.f; exact rfl; exact rfl)); intro K hK; go_simp; refine hK _ ?_; clear hK K; simp only [List.set_cons_succ, List.set_cons_zero])
          | ((with_reducible apply wpT1_pure); exact rfl; intro K hK; go_simp; refine hK _ ?_; clear hK K; simp only [List.set_cons_succ, List.set_cons_zero]))
      refine wpT_nil ?_
      refine wpG_slot hR (i := 12) (by kernel_rfl) rfl rfl (by (simp only [List.set_cons_succ, List.set_cons_zero]; exact rfl)) ?_
      clear hR; intro w hR
      refine wpG_put hR tThs (i := 13) (by kernel_rfl) rfl rfl rfl (.head _) (put_ths _ rfl hTok) (encThs_size hTok) (by simp [encThs, cellsThs_len ths0_ok]) (one_ths _) Upd.head (List.Sublist.cons _ (List.sublist_append_right _ _)) ?_
      clear hR; intro w hR
      refine wpG_slot hR (i := 14) (by kernel_rfl) rfl rfl (by (simp only [List.set_cons_succ, List.set_cons_zero]; exact rfl)) ?_
      clear hR; intro w hR
      refine wpG_end hR (by kernel_rfl) ?_
      clear hR; intro w hR
      have hVn := hV _ _ _ hR (fun r h => .tail _ (List.mem_append_left _ h))
      obtain ⟨az, cz, rfl, _⟩ := hVn.el cellsF_len (i := 0) (z := x) rfl
      go_upto_region 20 with (first
          | ((with_reducible apply q_ls hR); exact rfl; (with_reducible apply t_old tIntR hT7); (apply EvC.now; exact rfl); exact rfl; (simp only [List.set_cons_succ, List.set_cons_zero]; exact rfl); clear hR; intro w hR)
          | ((with_reducible apply wpList_built); exact rfl; exact rfl; exact bThr _ _; (simp only [List.set_cons_succ, List.set_cons_zero]; exact rfl))
          | ((with_reducible apply wpList_make hR zThr); exact rfl; clear hR; intro g20 w hR; simp only [List.set_cons_succ, List.set_cons_zero])
          | ((with_reducible apply wpList_put hR tThr); exact rfl; exact rfl; exact rfl; (focus (repeat (first | apply List.Mem.head | apply List.Mem.tail | apply List.mem_append_right))); exact put_thr _; exact rfl; simp [encThr]; exact one_thr _; (focus (repeat (first | apply Upd.head | apply Upd.tail))); clear hR; intro w hR)
          | ((with_reducible apply q_ls hR); exact rfl; ((with_reducible first | apply t_addr (fRec _ (by decide)) | apply t_addr (fFix _ (by decide)) | apply t_one tByteR | apply t_one tSlR | apply t_one tIntR | apply t_one tWordF | apply t_one tBoolF | apply t_part tFix) <;> (first | (apply EvC.gv; exact rfl; (with_reducible first | exact Imp.refl _ | (apply Imp.left; exact Imp.refl _) | (apply Imp.right; exact Imp.refl _) | (apply Imp.left; apply Imp.left; exact Imp.refl _))) | (apply EvC.now; exact rfl) | exact rfl | (with_reducible exact EvAll.nil) | (focus (repeat (first | apply EvAll.cons | exact EvAll.nil | (apply EvC.gv; exact rfl; (with_reducible first | exact Imp.refl _ | (apply Imp.left; exact Imp.refl _) | (apply Imp.right; exact Imp.refl _) | (apply Imp.left; apply Imp.left; exact Imp.refl _))) | (apply EvC.now; exact rfl))); done) | exact ext_fix _ | (focus (repeat (first | apply List.Mem.head | apply List.Mem.tail | apply List.mem_append_right))))); (simp only [List.set_cons_succ, List.set_cons_zero]; exact rfl); clear hR; intro w hR))
      obtain ⟨L, hm15, hm20, hsg, hRL⟩ : ∃ L, (g15, encThs T, 42) ∈ L ∧ (g20, encThr (frThr x), 39) ∈ L ∧ (∀ r ∈ sg, r ∈ L) ∧ Own w2 _ L := ⟨_, by (focus (repeat (first | apply List.Mem.head | apply List.Mem.tail | apply List.mem_append_right))), by (focus (repeat (first | apply List.Mem.head | apply List.Mem.tail | apply List.mem_append_right))), (by intro r h; exact .tail _ (.tail _ (List.mem_append_left _ h))), hR⟩
      clear hR
      have hR := hRL
      clear hRL
      have HZM := Lib.hid (show ∀ w, Own w2 w L → ∀ j u, (encF x).toList[j]? = some u → w.cell? ((az.add ((0 : Int).toNat * 8)).add j) = some u from fun w hC => RowsAt.cell cellsF_len (i := 0) (hV _ _ _ hC hsg) rfl)
      refine wp_region_rows hR [0, 1, 2, 3, 4, 5, 6, 7, 8, 9, 10, 11, 12, 13, 14, 15, 16, 17, 18, 19, 20, 21, 22, 23, 24, 25, 26, 27, 28, 29, 30, 31, 32, 33, 34, 35, 36, 37, 38, 39, 40, 41, 42, 43, 44, 45, 46, 47, 48, 49, 50, 51, 52, 53] 0 (by kernel_rfl) (by kernel_rfl) (by kernel_rfl) rfl ?_
      clear hR; intro hR
      repeat (refine wpT_step rfl ?_; first
          | ((with_reducible apply q_kn); exact rfl; (with_reducible apply t_call Try.call9); (first | (apply EvC.gv; exact rfl; (with_reducible first | exact Imp.refl _ | (apply Imp.left; exact Imp.refl _) | (apply Imp.right; exact Imp.refl _) | (apply Imp.left; apply Imp.left; exact Imp.refl _))) | (apply EvC.now; exact rfl) | exact rfl | (with_reducible exact EvAll.nil) | (focus (repeat (first | apply EvAll.cons | exact EvAll.nil | (apply EvC.gv; exact rfl; (with_reducible first | exact Imp.refl _ | (apply Imp.left; exact Imp.refl _) | (apply Imp.right; exact Imp.refl _) | (apply Imp.left; apply Imp.left; exact Imp.refl _))) | (apply EvC.now; exact rfl))); done) | exact ext_fix _ | (focus (repeat (first | apply List.Mem.head | apply List.Mem.tail | apply List.mem_append_right)))); (intro hcc w hC; exact tame_below (awake25_any _) hC); (simp only [List.set_cons_succ, List.set_cons_zero]; exact rfl))
          | ((with_reducible apply q_kn); exact rfl; (with_reducible apply t_lenRd Try.underlying34); (apply EvC.now; exact rfl); (first | exact hY | exact hVn); (simp only [List.set_cons_succ, List.set_cons_zero]; exact rfl))
          | ((with_reducible apply q_kn); exact rfl; (with_reducible apply t_cmp); (apply EvC.now; exact rfl); (apply EvC.now; exact rfl); (with_reducible first | exact l1F | exact cmp_selfS _); (simp only [List.set_cons_succ, List.set_cons_zero]; exact rfl))
          | ((with_reducible apply q_kn); exact rfl; (with_reducible apply t_six Try.underlying34 iFix); (apply EvC.now; exact rfl); (apply EvC.now; exact rfl); (constructor <;> simp); (simp only [List.set_cons_succ, List.set_cons_zero]; exact rfl))
          | ((with_reducible apply q_kn); exact rfl; (with_reducible apply t_oldMany tFix); (apply EvC.now; exact rfl); exact HCY.out; exact rfl; (simp only [List.set_cons_succ, List.set_cons_zero]; exact rfl))
          | ((with_reducible apply q_kn); exact rfl; (with_reducible apply t_manyW tFix); (apply EvC.now; exact rfl); (exact HZM.out); exact rfl; (simp only [List.set_cons_succ, List.set_cons_zero]; exact rfl))
          | ((with_reducible apply q_kn); exact rfl; (with_reducible apply t_oldRow tFix hT7); (apply EvC.now; exact rfl); exact ext_fix _; exact rfl; (simp only [List.set_cons_succ, List.set_cons_zero]; exact rfl))
          | ((with_reducible apply q_kn); exact rfl; (with_reducible apply t_eql gFix); (apply EvC.now; exact rfl); (apply EvC.now; exact rfl); exact eqF_self _; (simp only [List.set_cons_succ, List.set_cons_zero]; exact rfl))
          | ((with_reducible apply q_kn); exact rfl; (with_reducible apply t_addr (fThs _ (by decide))); (apply EvC.now; exact rfl); (simp only [List.set_cons_succ, List.set_cons_zero]; exact rfl))
          | ((with_reducible apply q_kn); exact rfl; (with_reducible apply t_pixK Try.underlying40 iThr); (apply EvC.now; exact rfl); (apply EvC.now; exact rfl); (constructor <;> omega); (simp only [List.set_cons_succ, List.set_cons_zero]; exact rfl))
          | ((with_reducible apply q_kn); exact rfl; (with_reducible apply t_part tThr); (apply EvC.now; exact rfl); (first | exact hm15 | exact hm20); (first | exact HEF.out | exact HET.out | exact ext_thr _); exact rfl; (simp only [List.set_cons_succ, List.set_cons_zero]; exact rfl))
          | ((with_reducible apply q_kn); exact rfl; (with_reducible apply t_old tIntR hT7); (apply EvC.now; exact rfl); exact rfl; (simp only [List.set_cons_succ, List.set_cons_zero]; exact rfl))
          | ((with_reducible apply q_kn); exact rfl; (with_reducible apply t_built); exact rfl; exact bThr _ _; (simp only [List.set_cons_succ, List.set_cons_zero]; exact rfl))
          | ((with_reducible apply q_kn); exact rfl; (with_reducible apply t_eql gThr); (apply EvC.now; exact rfl); (apply EvC.now; exact rfl); exact eqThr_self _ _; (simp only [List.set_cons_succ, List.set_cons_zero]; exact rfl))
          | ((with_reducible apply q_kn); exact rfl; (first | ((with_reducible first | apply t_move | apply t_assign | apply t_addr (fRec _ (by decide)) | apply t_addr (fFix _ (by decide)) | apply t_one tByteR | apply t_one tSlR | apply t_one tIntR | apply t_one tWordF | apply t_one tBoolF | apply t_part tFix) <;> (first | (apply EvC.gv; exact rfl; (with_reducible first | exact Imp.refl _ | (apply Imp.left; exact Imp.refl _) | (apply Imp.right; exact Imp.refl _) | (apply Imp.left; apply Imp.left; exact Imp.refl _))) | (apply EvC.now; exact rfl) | exact rfl | (with_reducible exact EvAll.nil) | (focus (repeat (first | apply EvAll.cons | exact EvAll.nil | (apply EvC.gv; exact rfl; (with_reducible first | exact Imp.refl _ | (apply Imp.left; exact Imp.refl _) | (apply Imp.right; exact Imp.refl _) | (apply Imp.left; apply Imp.left; exact Imp.refl _))) | (apply EvC.now; exact rfl))); done) | exact ext_fix _ | (focus (repeat (first | apply List.Mem.head | apply List.Mem.tail | apply List.mem_append_right))))) | ((with_reducible apply t_pick); (apply EvC.now; exact rfl); (apply EvC.now; exact rfl))); (simp only [List.set_cons_succ, List.set_cons_zero]; exact rfl)))
      refine wpG_end hR (by kernel_rfl) ?_
      clear hR; intro w hR
      go_wp2_with fail
      go_ret
      exact ⟨rfl, (hZ.own hR).below⟩
  · rw [HGET.2 h4]
    have HC := Lib.hid (show cmpB .gtr (told % 4) 0 = some true from congrArg some (decide_eq_true (by omega)))
    clear h4 HGET hM
    rintro e w2 ⟨v14, rfl, hb, hY⟩
    replace hR := hR.grow hb
    have hZ2 := (Since.start w0).own hR
    clear hR hb
    try clear hZ
    have hZ := hZ2
    clear hZ2
    have hR := Own.start w2
    go_upto_if 110 with (first
    | ((with_reducible apply wpList_make hR zThs); exact rfl; clear hR; intro g15 w hR; simp only [List.set_cons_succ, List.set_cons_zero])
    | ((with_reducible apply wpList_put hR tThs); exact rfl; exact rfl; exact rfl; (focus (repeat (first | apply List.Mem.head | apply List.Mem.tail | apply List.mem_append_right))); exact put_ths _ rfl ths0_ok; exact rfl; simp [encThs, cellsThs_len ths0_ok]; exact one_ths _; (focus (repeat (first | apply Upd.head | apply Upd.tail))); clear hR; intro w hR)
    | ((with_reducible apply q_ls hR); exact rfl; (with_reducible apply t_numE); (apply EvC.now; exact rfl); (apply EvC.now; exact rfl); exact rfl; (with_reducible first | exact HT3.out); (simp only [List.set_cons_succ, List.set_cons_zero]; exact rfl); clear hR; intro w hR)
    | ((with_reducible apply q_ls hR); exact rfl; (with_reducible apply t_cmp); (apply EvC.now; exact rfl); (apply EvC.now; exact rfl); exact HC.out; (simp only [List.set_cons_succ, List.set_cons_zero]; exact rfl); clear hR; intro w hR))
    refine wp_cond_at (nm := true) rfl rfl (fun _ => ?_) (fun h => absurd h (by decide))
    go_upto_region 17 with fail
    refine wp_region_tame hR [0, 1, 2, 3, 4, 5, 6, 7, 8, 9, 10, 11, 12, 13, 14, 15] rfl ?_
    repeat (refine wpT_step rfl ?_; first
    | ((with_reducible apply q_kn); exact rfl; (with_reducible apply t_call Try.call9); (first | (apply EvC.gv; exact rfl; (with_reducible first | exact Imp.refl _ | (apply Imp.left; exact Imp.refl _) | (apply Imp.right; exact Imp.refl _) | (apply Imp.left; apply Imp.left; exact Imp.refl _))) | (apply EvC.now; exact rfl) | exact rfl | (with_reducible exact EvAll.nil) | (focus (repeat (first | apply EvAll.cons | exact EvAll.nil | (apply EvC.gv; exact rfl; (with_reducible first | exact Imp.refl _ | (apply Imp.left; exact Imp.refl _) | (apply Imp.right; exact Imp.refl _) | (apply Imp.left; apply Imp.left; exact Imp.refl _))) | (apply EvC.now; exact rfl))); done) | exact ext_fix _ | (focus (repeat (first | apply List.Mem.head | apply List.Mem.tail | apply List.mem_append_right)))); (intro hcc w hC; exact tame_below (awake25_any _) hC); (simp only [List.set_cons_succ, List.set_cons_zero]; exact rfl))
    | ((with_reducible apply q_kn); exact rfl; (with_reducible apply t_lenRd Try.underlying34); (apply EvC.now; exact rfl); exact hY; (simp only [List.set_cons_succ, List.set_cons_zero]; exact rfl))
    | ((with_reducible apply q_kn); exact rfl; (with_reducible apply t_cmp); (apply EvC.now; exact rfl); (apply EvC.now; exact rfl); (with_reducible first | exact l0F | exact cmp_selfS _); (simp only [List.set_cons_succ, List.set_cons_zero]; exact rfl))
    | ((with_reducible apply q_kn); exact rfl; (with_reducible apply t_built); exact rfl; exact bThs0; (simp only [List.set_cons_succ, List.set_cons_zero]; exact rfl))
    | ((with_reducible apply q_kn); exact rfl; (with_reducible apply t_part tThs); (apply EvC.now; exact rfl); (exact .head _); exact ext_ths ths0_ok; exact encThs_size ths0_ok; (simp only [List.set_cons_succ, List.set_cons_zero]; exact rfl))
    | ((with_reducible apply q_kn); exact rfl; (with_reducible apply t_eql gThs); (apply EvC.now; exact rfl); (apply EvC.now; exact rfl); exact eqThs0; (simp only [List.set_cons_succ, List.set_cons_zero]; exact rfl))
    | ((with_reducible apply q_kn); exact rfl; (first | ((with_reducible first | apply t_move | apply t_assign | apply t_addr (fRec _ (by decide)) | apply t_addr (fFix _ (by decide)) | apply t_one tByteR | apply t_one tSlR | apply t_one tIntR | apply t_one tWordF | apply t_one tBoolF | apply t_part tFix) <;> (first | (apply EvC.gv; exact rfl; (with_reducible first | exact Imp.refl _ | (apply Imp.left; exact Imp.refl _) | (apply Imp.right; exact Imp.refl _) | (apply Imp.left; apply Imp.left; exact Imp.refl _))) | (apply EvC.now; exact rfl) | exact rfl | (with_reducible exact EvAll.nil) | (focus (repeat (first | apply EvAll.cons | exact EvAll.nil | (apply EvC.gv; exact rfl; (with_reducible first | exact Imp.refl _ | (apply Imp.left; exact Imp.refl _) | (apply Imp.right; exact Imp.refl _) | (apply Imp.left; apply Imp.left; exact Imp.refl _))) | (apply EvC.now; exact rfl))); done) | exact ext_fix _ | (focus (repeat (first | apply List.Mem.head | apply List.Mem.tail | apply List.mem_append_right))))) | ((with_reducible apply t_pick); (apply EvC.now; exact rfl); (apply EvC.now; exact rfl))); (simp only [List.set_cons_succ, List.set_cons_zero]; exact rfl)))
    refine wpT_nil ?_
    clear hR; intro w hR
    go_wp2_with fail
    go_ret
    exact ⟨rfl, (hZ.own hR).below⟩

set_option maxRecDepth 100000 in
theorem lifted (os : Os) (started : os.Started) (H : Type) (enc : TypeId × Value → H) :
    ReturnsInHanded {} Try.checked os 5 .any (Rows.fixupThreadsSpec.pre6 enc Try.prog Try.f5 Rows.fixupThreadsRow.domain false) (Rows.fixupThreadsSpec.post enc Try.prog Try.f5 false true false false) := by
  refine returnsInHanded_of_change (C := Try.checked) own started (by kernel_rfl) Try.func5
    (ChangeSpec.witness6 (enc := enc) (C := Try.checked) false ⟨#[], #[.agg (encF zeroF), .agg (encP 0 0), .int .i64 0], []⟩ 8 (by kernel_rfl) (by kernel_rfl) (by kernel_rfl) (by kernel_rfl)) ?_
  intro W base args ds gs before hval0 hW hcnd _
  have hval : ∀ (j : Nat) t v, Try.f5.params[j]? = some t → args[j]? = some v → Value.okWide Try.prog W .any base t v := hval0
  have hW' := hW
  obtain ⟨p, q, hA0, hV, rfl, hfz, hnd⟩ := hW
  have hA : DataW.TrodAll enc Try.prog W 0 (fun _ => true) true Try.f5.params.toList args.toList ds p := hA0
  rw [Try.params5] at hA hval
  obtain ⟨v0, vs0, d0, ds0, p0, q0, hargs, rfl, rfl, h0, r0⟩ := trodAll_cons hA
  obtain ⟨v1, vs1, d1, ds1, p1, q1, rfl, rfl, rfl, h1, r1⟩ := trodAll_cons r0
  obtain ⟨v2, vs2, d2, ds2, p2, q2, rfl, rfl, rfl, h2, r2⟩ := trodAll_cons r1
  obtain ⟨rfl, rfl, rfl⟩ := trodAll_nil r2
  obtain rfl : args = #[v0, v1, v2] := by cases args; simp_all
  obtain ⟨rfl, rfl⟩ := trodVars_none hV
  have k0 := h0
  have lt0 : ∀ x ∈ p0, x.block < W.heap.size := by obtain ⟨m, hm⟩ := k0; exact DataW.trod_lt m _ _ _ hm
  have k1 := h1
  have lt1 : ∀ x ∈ p1, x.block < W.heap.size := by obtain ⟨m, hm⟩ := k1; exact DataW.trod_lt m _ _ _ hm
  obtain ⟨a2, rfl, rfl, rfl, w2⟩ := open_int Try.underlying3 (hval 2 3 v2 rfl rfl) h2
  clear hA0 hval0
  refine (walk v0 (hval 0 24 v0 rfl rfl) v1 (hval 1 47 v1 rfl rfl) a2 w2 W).mono fun e W' ⟨he, bel⟩ => ?_
  subst he
  exact ⟨_, rfl, _, _, _, [], _, [], hW', trodAll_mk1 (shut_bool Try.underlying4 _), (trodAll_cons_mk (Below.trod laidOut (by kernel_rfl) (of_decide_eq_true (by kernel_rfl)) k0 bel lt0) (trodAll_cons_mk (Below.trod laidOut (by kernel_rfl) (of_decide_eq_true (by kernel_rfl)) k1 bel lt1) (trodAll_cons_mk (shut_int Try.underlying3 w2) trodAll_mk0))), rfl, bel.frame _, fun h => by cases h⟩

theorem over : Rows.fixupThreadsRow.holds Try.pinned (OpenSpec.ofChange Rows.fixupThreadsSpec) :=
  OpenClaim.holds_of_wide 5 Try.f5 rfl rfl rfl rfl rfl rfl rfl ⟨rfl, rfl, rfl, rfl, rfl⟩ rfl rfl rfl rfl rfl (by kernel_rfl) Try.func5 (by kernel_rfl)
    (of_decide_eq_true (by kernel_rfl)) (by unfold Func.isWrapper; first | (rw [if_pos (by decide +kernel)]; kernel_rfl) | (rw [if_neg (by decide +kernel)]; exact ⟨rfl, rfl⟩))
    (fun os started H enc _ => lifted os started H enc)

theorem proved : Rows.FixupThreadsSaid := over
#print axioms proved
end Go.Proofs.Ytimciiaajlfkoaa.fixupThreads
