/- The law NamesRemark (remarks are there and back; of fewer than two bytes there are none) returns true whatever the arguments, and each argument reads afterwards as before. There is no condition on the arguments. -/
import Derived.Test.YtlnicbjnphineaaRows
import Derived.Test.YtlnicbjnphineaaLaw20
import Derived.Test.YtlnicbjnphineaaBytesArg
import Derived.Test.YtlnicbjnphineaaCom
import Derived.WalkKit
import Derived.ProofKit
import Derived.OpenShut
import Derived.ShutString
import Derived.ChangeOld
import Derived.Below
namespace Go.Proofs.Ytlnicbjnphineaa.namesRemark
open Go.ChangeShapes Go.WideShapes Go.ChangeAt Go.RowKit
open Go.ChangeMaps (open_string shut_string)
set_option linter.unusedVariables false
set_option linter.unusedSimpArgs false

theorem own : ownKnob Try.prog.godebug = none := by kernel_rfl
theorem laidOut : laidOutB Try.prog = true := by kernel_rfl










theorem cmp_self (a : Int) : cmpB .eql a a = some true := congrArg some (beq_self_eq_true a)
theorem min100 (n : Nat) : (if (100 : Int) < (n : Int) then 100 else (n : Int)) = ((min n 100 : Nat) : Int) := by split <;> omega
theorem min30 (n : Nat) : (if (30 : Int) < (n : Int) then 30 else (n : Int)) = ((min n 30 : Nat) : Int) := by split <;> omega
theorem c20 : cmpB .neq 2 0 = some true := rfl
theorem c00 : cmpB .neq 0 0 = some false := rfl
set_option maxHeartbeats 4000000 in
set_option maxRecDepth 100000 in
theorem walk {base : Nat} {w0 : World} (v0 : Value) (k0 : Value.okWide Try.prog w0 .any base 38 v0) (v1 : Value) (hB : BytesAt w0 v1) (wi : World) :
    Calls Try.prog 5 #[v0, v1] w0 fun e w' => e = .returned (.bool true) ∧ Below w0.heap.size w0 w' := by
  clear wi
  obtain ⟨c, hc, rfl⟩ := open_com k0
  clear k0
  obtain ⟨body, hS0, hlen⟩ := hB
  have hR := Own.start w0
  obtain ⟨n, hn⟩ : ∃ n, min c.t.length 100 = n := ⟨_, rfl⟩
  have hnt : n ≤ c.t.length := by omega
  have hn100 : n ≤ 100 := by omega
  have HM := Lib.hid (min100 c.t.length)
  rw [hn] at HM
  obtain ⟨m, hm⟩ : ∃ m, min body.length 30 = m := ⟨_, rfl⟩
  have hmb : m ≤ body.length := by omega
  have hm30 : m ≤ 30 := by omega
  have HM2 := Lib.hid (min30 body.length)
  rw [hm] at HM2
  have hS := hS0.first m hmb
  obtain ⟨bs, hbs⟩ : ∃ bs, body.take m = bs := ⟨_, rfl⟩
  have hbl : bs.length = m := by rw [← hbs, List.length_take]; omega
  have hbl1 : bs.length ≤ 30 := by omega
  have hbl2 : body.length < 2 → bs.length < 2 := by omega
  have hbl3 : 2 ≤ body.length → 2 ≤ bs.length := by omega
  rw [hbs] at hS
  clear hn hbs hbl hm
  go_enter Try.func5, Try.ntmps5
  go_upto_region 3 with (first
    | ((with_reducible apply wpList_box hR); exact rfl; exact rfl; clear hR; intro g w hR; simp only [List.set_cons_succ, List.set_cons_zero])
    | ((with_reducible apply wpList_make hR zCom); exact rfl; clear hR; intro g w hR; simp only [List.set_cons_succ, List.set_cons_zero])
    | ((with_reducible apply wpList_put hR tCom); exact rfl; exact rfl; exact rfl; (focus (repeat (first | apply List.Mem.head | apply List.Mem.tail | apply List.mem_append_right))); exact put_com _ _; exact rfl; simp [encCom]; exact one_com _; (focus (repeat (first | apply Upd.head | apply Upd.tail))); clear hR; intro w hR)
    | ((with_reducible apply wpList_put1 hR tStrO); exact rfl; exact rfl; exact rfl; (focus (repeat (first | apply List.Mem.head | apply List.Mem.tail | apply List.mem_append_right))); exact put_text _ _; simp [encCom]; exact rfl; (focus (repeat (first | apply Upd.head | apply Upd.tail))); clear hR; intro w hR)
    | ((with_reducible apply q_ls hR); exact rfl; (with_reducible apply t_lenN Try.underlying9); (apply EvC.now; exact rfl); (simp only [List.set_cons_succ, List.set_cons_zero]; exact rfl); clear hR; intro w hR)
    | ((with_reducible apply q_ls hR); exact rfl; (with_reducible apply t_minK); (apply EvC.now; exact rfl); (apply EvC.now; exact rfl); (exact HM.out); (simp only [List.set_cons_succ, List.set_cons_zero]; exact rfl); clear hR; intro w hR)
    | ((with_reducible apply q_ls hR); exact rfl; (with_reducible apply t_takeN Try.underlying9); (apply EvC.now; exact rfl); (apply EvC.now; exact rfl); exact rfl; (exact hnt); (simp only [List.set_cons_succ, List.set_cons_zero]; exact rfl); clear hR; intro w hR)
    | ((with_reducible apply q_ls hR); exact rfl; ((with_reducible first | apply t_addr (fRec _ (by decide)) | apply t_addr (fCom _ (by decide)) | apply t_one tByteR | apply t_one tSlR | apply t_one tIntR | apply t_one tStrO | apply t_part tCom) <;> (first | (apply EvC.gv; exact rfl; (with_reducible first | exact Imp.refl _ | (apply Imp.left; exact Imp.refl _) | (apply Imp.right; exact Imp.refl _) | (apply Imp.left; apply Imp.left; exact Imp.refl _))) | (apply EvC.now; exact rfl) | exact rfl | (with_reducible exact EvAll.nil) | (focus (repeat (first | apply EvAll.cons | exact EvAll.nil | (apply EvC.gv; exact rfl; (with_reducible first | exact Imp.refl _ | (apply Imp.left; exact Imp.refl _) | (apply Imp.right; exact Imp.refl _) | (apply Imp.left; apply Imp.left; exact Imp.refl _))) | (apply EvC.now; exact rfl))); done) | exact ext_com _ | (focus (repeat (first | apply List.Mem.head | apply List.Mem.tail | apply List.mem_append_right))))); (simp only [List.set_cons_succ, List.set_cons_zero]; exact rfl); clear hR; intro w hR))
  obtain ⟨d, hd⟩ : ∃ d, (⟨c.a, c.b, c.t.take n⟩ : ComZ) = d := ⟨_, rfl⟩
  have hdo : d.ok := by rw [← hd]; exact ⟨hc.1, hc.2.1, hc.2.2.take n⟩
  have hdl : d.t.length ≤ 100 := by rw [← hd]; show (c.t.take n).length ≤ 100; rw [List.length_take]; omega
  have HCB := Lib.hid (show [c.a, c.b] ++ d.t = comB d by rw [← hd]; rfl)
  have hab : bytesOk [c.a, c.b] := .cons hc.1 (.cons hc.2.1 .nil)
  rw [hd] at hR
  have hbo := comB_ok hdo
  have hcl : (comB d).length ≤ 102 := by simp [comB]; omega
  clear hd HM hnt
  go_wp2_with (first
    | ((with_reducible apply q_ls hR); exact rfl; ((with_reducible first | apply t_addr (fRec _ (by decide)) | apply t_addr (fCom _ (by decide)) | apply t_one tByteR | apply t_one tSlR | apply t_one tIntR | apply t_one tStrO | apply t_part tCom) <;> (first | (apply EvC.gv; exact rfl; (with_reducible first | exact Imp.refl _ | (apply Imp.left; exact Imp.refl _) | (apply Imp.right; exact Imp.refl _) | (apply Imp.left; apply Imp.left; exact Imp.refl _))) | (apply EvC.now; exact rfl) | exact rfl | (with_reducible exact EvAll.nil) | (focus (repeat (first | apply EvAll.cons | exact EvAll.nil | (apply EvC.gv; exact rfl; (with_reducible first | exact Imp.refl _ | (apply Imp.left; exact Imp.refl _) | (apply Imp.right; exact Imp.refl _) | (apply Imp.left; apply Imp.left; exact Imp.refl _))) | (apply EvC.now; exact rfl))); done) | exact ext_com _ | (focus (repeat (first | apply List.Mem.head | apply List.Mem.tail | apply List.mem_append_right))))); (simp only [List.set_cons_succ, List.set_cons_zero]; exact rfl); clear hR; intro w hR))
  refine (namRemark_any d _ hdo (by omega)).mono ?_
  rintro e w1 ⟨sr, vr, rfl, hO, hV⟩
  replace hR := hR.join hO
  have hVn := hV _ _ _ hO fun _ h => h
  clear hO
  go_upto_region 4 with (first
    | ((with_reducible apply wpList_make hR zRec); exact rfl; clear hR; intro g w hR; simp only [List.set_cons_succ, List.set_cons_zero])
    | ((with_reducible apply wpList_put hR tRec); exact rfl; exact rfl; exact rfl; (focus (repeat (first | apply List.Mem.head | apply List.Mem.tail | apply List.mem_append_right))); exact put_rec _ _ _ _; exact rfl; simp; exact one_rec _ hVn; (focus (repeat (first | apply Upd.head | apply Upd.tail))); clear hR; intro w hR))
  go_wp2_with (first
    | ((with_reducible apply q_ls hR); exact rfl; ((with_reducible first | apply t_addr (fRec _ (by decide)) | apply t_addr (fCom _ (by decide)) | apply t_one tByteR | apply t_one tSlR | apply t_one tIntR | apply t_one tStrO | apply t_part tCom) <;> (first | (apply EvC.gv; exact rfl; (with_reducible first | exact Imp.refl _ | (apply Imp.left; exact Imp.refl _) | (apply Imp.right; exact Imp.refl _) | (apply Imp.left; apply Imp.left; exact Imp.refl _))) | (apply EvC.now; exact rfl) | exact rfl | (with_reducible exact EvAll.nil) | (focus (repeat (first | apply EvAll.cons | exact EvAll.nil | (apply EvC.gv; exact rfl; (with_reducible first | exact Imp.refl _ | (apply Imp.left; exact Imp.refl _) | (apply Imp.right; exact Imp.refl _) | (apply Imp.left; apply Imp.left; exact Imp.refl _))) | (apply EvC.now; exact rfl))); done) | exact ext_com _ | (focus (repeat (first | apply List.Mem.head | apply List.Mem.tail | apply List.mem_append_right))))); (simp only [List.set_cons_succ, List.set_cons_zero]; exact rfl); clear hR; intro w hR))
  refine (namComment_any (hV _ _ _ hR (fun r h => .tail _ (List.mem_append_left _ h))) (by omega)).mono ?_
  rw [com_back]
  rintro e w2 ⟨rfl, hb⟩
  replace hR := hR.grow hb
  clear hb
  go_upto_region 5 with (first
    | ((with_reducible apply wpList_make hR zCom); exact rfl; clear hR; intro g w hR; simp only [List.set_cons_succ, List.set_cons_zero])
    | ((with_reducible apply wpList_put hR tCom); exact rfl; exact rfl; exact rfl; (focus (repeat (first | apply List.Mem.head | apply List.Mem.tail | apply List.mem_append_right))); exact put_com _ _; exact rfl; simp [encCom]; exact one_com _; (focus (repeat (first | apply Upd.head | apply Upd.tail))); clear hR; intro w hR))
  by_cases h2 : 2 ≤ body.length
  · obtain ⟨z, HZ, hzb⟩ := com_more (hbl3 h2)
    have hzo : z.ok := by
      have := hS.ok
      rw [← hzb] at this
      exact ⟨this _ (.head _), this _ (.tail _ (.head _)), fun x hx => this x (.tail _ (.tail _ hx))⟩
    have hzl : z.t.length ≤ 100 := by
      have := congrArg List.length hzb
      simp [comB] at this
      omega
    have HCOM := Lib.hid HZ
    have HZB := Lib.hid hzb
    have HLT := Lib.hid (show cmpB .lss (body.length : Int) 2 = some false from congrArg some (decide_eq_false (by omega)))
    clear HZ hzb h2 hbl2 hbl3
    go_upto_region 6 with (first
        | ((with_reducible apply q_ls hR); exact rfl; (with_reducible apply t_lenW Try.underlying22); (apply EvC.now; exact rfl); exact hS0; (simp only [List.set_cons_succ, List.set_cons_zero]; exact rfl); clear hR; intro w hR)
        | ((with_reducible apply q_ls hR); exact rfl; (with_reducible apply t_minK); (apply EvC.now; exact rfl); (apply EvC.now; exact rfl); (exact HM2.out); (simp only [List.set_cons_succ, List.set_cons_zero]; exact rfl); clear hR; intro w hR)
        | ((with_reducible apply q_ls hR); exact rfl; (with_reducible apply t_cutH tBytesN hS0); (apply EvC.now; exact rfl); (apply EvC.now; exact rfl); exact rfl; (exact hmb); (simp only [List.set_cons_succ, List.set_cons_zero]; exact rfl); clear hR; intro w hR)
        | (go_at_call 13; refine (namComment_any (hS.own hR) (by omega)).mono ?_; rw [HCOM.out]; rintro e w' ⟨rfl, hb⟩; replace hR := hR.grow hb; clear hb)
        | ((with_reducible apply wpList_make hR zCom); exact rfl; clear hR; intro g w hR; simp only [List.set_cons_succ, List.set_cons_zero])
        | ((with_reducible apply wpList_put hR tCom); exact rfl; exact rfl; exact rfl; (focus (repeat (first | apply List.Mem.head | apply List.Mem.tail | apply List.mem_append_right))); exact put_com _ _; exact rfl; simp [encCom]; exact one_com _; (focus (repeat (first | apply Upd.head | apply Upd.tail))); clear hR; intro w hR))
    go_upto_if 40 with (first
        | ((with_reducible apply q_ls hR); exact rfl; (with_reducible apply t_lenW Try.underlying22); (apply EvC.now; exact rfl); exact hS0; (simp only [List.set_cons_succ, List.set_cons_zero]; exact rfl); clear hR; intro w hR)
        | ((with_reducible apply q_ls hR); exact rfl; (with_reducible apply t_cmp); (apply EvC.now; exact rfl); (apply EvC.now; exact rfl); exact HLT.out; (simp only [List.set_cons_succ, List.set_cons_zero]; exact rfl); clear hR; intro w hR))
    refine wp_cond_at (nm := false) rfl rfl (fun hc => ?_) (fun hc => ?_)
    all_goals first
      | exact absurd hc (by decide)
      | skip
    go_upto_region 9 with fail
    refine wp_region_some hR _ (List.Sublist.refl _) [0, 1, 2, 3, 4, 5, 6, 7, 8, 9, 10, 11, 12, 13, 16, 17] 37 (by kernel_rfl) (by kernel_rfl) (by kernel_rfl) rfl ?_
    clear hR; intro hR
    repeat (refine wpT_step rfl ?_; first
        | ((with_reducible apply q_kn); exact rfl; (with_reducible apply t_call Try.call8); (first | (apply EvC.gv; exact rfl; (with_reducible first | exact Imp.refl _ | (apply Imp.left; exact Imp.refl _) | (apply Imp.right; exact Imp.refl _) | (apply Imp.left; apply Imp.left; exact Imp.refl _))) | (apply EvC.now; exact rfl) | exact rfl | (with_reducible exact EvAll.nil) | (focus (repeat (first | apply EvAll.cons | exact EvAll.nil | (apply EvC.gv; exact rfl; (with_reducible first | exact Imp.refl _ | (apply Imp.left; exact Imp.refl _) | (apply Imp.right; exact Imp.refl _) | (apply Imp.left; apply Imp.left; exact Imp.refl _))) | (apply EvC.now; exact rfl))); done) | exact ext_com _ | (focus (repeat (first | apply List.Mem.head | apply List.Mem.tail | apply List.mem_append_right)))); (intro hcc w hC; exact tame_below (awake20_any _) hC); (simp only [List.set_cons_succ, List.set_cons_zero]; exact rfl))
        | ((with_reducible apply q_kn); exact rfl; (with_reducible apply t_strW tTextN); (apply EvC.now; exact rfl); (first | (with_reducible exact fun w hC => hS.own hC) | exact fun w hC => hV _ _ _ hC (fun r h => .tail _ (.tail _ (.tail _ (List.mem_append_left _ h))))); (simp only [List.set_cons_succ, List.set_cons_zero]; exact rfl))
        | ((with_reducible apply q_kn); exact rfl; (with_reducible apply t_strsame); (apply EvC.now; exact rfl); (apply EvC.now; exact rfl); (simp only [List.set_cons_succ, List.set_cons_zero]; exact rfl))
        | ((with_reducible apply q_kn); exact rfl; (with_reducible apply t_catE); (apply EvC.now; exact rfl); (apply EvC.now; exact rfl); (simp only [List.length_cons, List.length_nil]; omega); exact HCB.out; (simp only [List.set_cons_succ, List.set_cons_zero]; exact rfl))
        | ((with_reducible apply q_kn); exact rfl; (with_reducible apply t_eql gCom); (apply EvC.now; exact rfl); (apply EvC.now; exact rfl); exact eqB_com _; (simp only [List.set_cons_succ, List.set_cons_zero]; exact rfl))
        | ((with_reducible apply q_kn); exact rfl; (with_reducible apply t_cmp); (apply EvC.now; exact rfl); (apply EvC.now; exact rfl); (with_reducible first | exact cmp_self _ | exact c20 | exact c00); (simp only [List.set_cons_succ, List.set_cons_zero]; exact rfl))
        | ((with_reducible apply q_kn); exact rfl; (with_reducible apply t_lenW Try.underlying22); (apply EvC.now; exact rfl); exact hS0; (simp only [List.set_cons_succ, List.set_cons_zero]; exact rfl))
        | ((with_reducible apply q_kn); exact rfl; (with_reducible apply t_minK); (apply EvC.now; exact rfl); (apply EvC.now; exact rfl); exact HM2.out; (simp only [List.set_cons_succ, List.set_cons_zero]; exact rfl))
        | ((with_reducible apply q_kn); exact rfl; (with_reducible apply t_cutH tBytesN hS0); (apply EvC.now; exact rfl); (apply EvC.now; exact rfl); exact rfl; exact hmb; (simp only [List.set_cons_succ, List.set_cons_zero]; exact rfl))
        | ((with_reducible apply q_kn); exact rfl; ((with_reducible first | apply t_addr (fRec _ (by decide)) | apply t_addr (fCom _ (by decide)) | apply t_one tByteR | apply t_one tSlR | apply t_one tIntR | apply t_one tStrO | apply t_part tCom) <;> (first | (apply EvC.gv; exact rfl; (with_reducible first | exact Imp.refl _ | (apply Imp.left; exact Imp.refl _) | (apply Imp.right; exact Imp.refl _) | (apply Imp.left; apply Imp.left; exact Imp.refl _))) | (apply EvC.now; exact rfl) | exact rfl | (with_reducible exact EvAll.nil) | (focus (repeat (first | apply EvAll.cons | exact EvAll.nil | (apply EvC.gv; exact rfl; (with_reducible first | exact Imp.refl _ | (apply Imp.left; exact Imp.refl _) | (apply Imp.right; exact Imp.refl _) | (apply Imp.left; apply Imp.left; exact Imp.refl _))) | (apply EvC.now; exact rfl))); done) | exact ext_com _ | (focus (repeat (first | apply List.Mem.head | apply List.Mem.tail | apply List.mem_append_right))))); (simp only [List.set_cons_succ, List.set_cons_zero]; exact rfl))
        | ((with_reducible apply q_kn); exact rfl; (first | ((with_reducible first | apply t_move | apply t_assign | apply t_addr (fRec _ (by decide)) | apply t_addr (fCom _ (by decide)) | apply t_one tByteR | apply t_one tSlR | apply t_one tIntR | apply t_one tStrO | apply t_part tCom) <;> (first | (apply EvC.gv; exact rfl; (with_reducible first | exact Imp.refl _ | (apply Imp.left; exact Imp.refl _) | (apply Imp.right; exact Imp.refl _) | (apply Imp.left; apply Imp.left; exact Imp.refl _))) | (apply EvC.now; exact rfl) | exact rfl | (with_reducible exact EvAll.nil) | (focus (repeat (first | apply EvAll.cons | exact EvAll.nil | (apply EvC.gv; exact rfl; (with_reducible first | exact Imp.refl _ | (apply Imp.left; exact Imp.refl _) | (apply Imp.right; exact Imp.refl _) | (apply Imp.left; apply Imp.left; exact Imp.refl _))) | (apply EvC.now; exact rfl))); done) | exact ext_com _ | (focus (repeat (first | apply List.Mem.head | apply List.Mem.tail | apply List.mem_append_right))))) | ((with_reducible apply t_pick); (apply EvC.now; exact rfl); (apply EvC.now; exact rfl))); (simp only [List.set_cons_succ, List.set_cons_zero]; exact rfl))
        | ((with_reducible apply wpT1_skipL); exact rfl; (simp only [List.set_cons_succ, List.set_cons_zero]; exact rfl)))
    refine wpT_nil ?_
    refine wpG_buildS hR (i := 14) (by kernel_rfl) rfl rfl rfl (bB2 _ _) (List.Sublist.refl _) ?_
    clear hR; intro g7 w hR
    simp only [List.set_cons_succ, List.set_cons_zero]
    refine wpG_q hR (i := 15) (by kernel_rfl) rfl rfl (t_strW tTextN (EvC.now rfl) (fun w hC => src_row hC (.head _) rfl hab (by simp))) (by (simp only [List.set_cons_succ, List.set_cons_zero]; exact rfl)) (List.Sublist.cons _ (List.Sublist.refl _)) ?_
    clear hR; intro w hR
    refine wpG_of_wpT (by kernel_rfl) (fun _ _ _ h => h) 7 _ [18, 19, 20, 21, 22, 23, 24, 25, 26, 27, 28, 29, 30, 31, 32, 33, 34, 35, 36, 37, 38, 39, 43, 44, 45, 46, 47, 48] _ _ (by kernel_rfl) ?_
    repeat (refine wpT_step rfl ?_; first
        | ((with_reducible apply q_kn); exact rfl; (with_reducible apply t_call Try.call8); (first | (apply EvC.gv; exact rfl; (with_reducible first | exact Imp.refl _ | (apply Imp.left; exact Imp.refl _) | (apply Imp.right; exact Imp.refl _) | (apply Imp.left; apply Imp.left; exact Imp.refl _))) | (apply EvC.now; exact rfl) | exact rfl | (with_reducible exact EvAll.nil) | (focus (repeat (first | apply EvAll.cons | exact EvAll.nil | (apply EvC.gv; exact rfl; (with_reducible first | exact Imp.refl _ | (apply Imp.left; exact Imp.refl _) | (apply Imp.right; exact Imp.refl _) | (apply Imp.left; apply Imp.left; exact Imp.refl _))) | (apply EvC.now; exact rfl))); done) | exact ext_com _ | (focus (repeat (first | apply List.Mem.head | apply List.Mem.tail | apply List.mem_append_right)))); (intro hcc w hC; exact tame_below (awake20_any _) hC); (simp only [List.set_cons_succ, List.set_cons_zero]; exact rfl))
        | ((with_reducible apply q_kn); exact rfl; (with_reducible apply t_strW tTextN); (apply EvC.now; exact rfl); (first | (with_reducible exact fun w hC => hS.own hC) | exact fun w hC => hV _ _ _ hC (fun r h => .tail _ (.tail _ (.tail _ (List.mem_append_left _ h))))); (simp only [List.set_cons_succ, List.set_cons_zero]; exact rfl))
        | ((with_reducible apply q_kn); exact rfl; (with_reducible apply t_strsame); (apply EvC.now; exact rfl); (apply EvC.now; exact rfl); (simp only [List.set_cons_succ, List.set_cons_zero]; exact rfl))
        | ((with_reducible apply q_kn); exact rfl; (with_reducible apply t_catE); (apply EvC.now; exact rfl); (apply EvC.now; exact rfl); (simp only [List.length_cons, List.length_nil]; omega); exact HCB.out; (simp only [List.set_cons_succ, List.set_cons_zero]; exact rfl))
        | ((with_reducible apply q_kn); exact rfl; (with_reducible apply t_eql gCom); (apply EvC.now; exact rfl); (apply EvC.now; exact rfl); exact eqB_com _; (simp only [List.set_cons_succ, List.set_cons_zero]; exact rfl))
        | ((with_reducible apply q_kn); exact rfl; (with_reducible apply t_cmp); (apply EvC.now; exact rfl); (apply EvC.now; exact rfl); (with_reducible first | exact cmp_self _ | exact c20 | exact c00); (simp only [List.set_cons_succ, List.set_cons_zero]; exact rfl))
        | ((with_reducible apply q_kn); exact rfl; (with_reducible apply t_lenW Try.underlying22); (apply EvC.now; exact rfl); exact hS0; (simp only [List.set_cons_succ, List.set_cons_zero]; exact rfl))
        | ((with_reducible apply q_kn); exact rfl; (with_reducible apply t_minK); (apply EvC.now; exact rfl); (apply EvC.now; exact rfl); exact HM2.out; (simp only [List.set_cons_succ, List.set_cons_zero]; exact rfl))
        | ((with_reducible apply q_kn); exact rfl; (with_reducible apply t_cutH tBytesN hS0); (apply EvC.now; exact rfl); (apply EvC.now; exact rfl); exact rfl; exact hmb; (simp only [List.set_cons_succ, List.set_cons_zero]; exact rfl))
        | ((with_reducible apply q_kn); exact rfl; ((with_reducible first | apply t_addr (fRec _ (by decide)) | apply t_addr (fCom _ (by decide)) | apply t_one tByteR | apply t_one tSlR | apply t_one tIntR | apply t_one tStrO | apply t_part tCom) <;> (first | (apply EvC.gv; exact rfl; (with_reducible first | exact Imp.refl _ | (apply Imp.left; exact Imp.refl _) | (apply Imp.right; exact Imp.refl _) | (apply Imp.left; apply Imp.left; exact Imp.refl _))) | (apply EvC.now; exact rfl) | exact rfl | (with_reducible exact EvAll.nil) | (focus (repeat (first | apply EvAll.cons | exact EvAll.nil | (apply EvC.gv; exact rfl; (with_reducible first | exact Imp.refl _ | (apply Imp.left; exact Imp.refl _) | (apply Imp.right; exact Imp.refl _) | (apply Imp.left; apply Imp.left; exact Imp.refl _))) | (apply EvC.now; exact rfl))); done) | exact ext_com _ | (focus (repeat (first | apply List.Mem.head | apply List.Mem.tail | apply List.mem_append_right))))); (simp only [List.set_cons_succ, List.set_cons_zero]; exact rfl))
        | ((with_reducible apply q_kn); exact rfl; (first | ((with_reducible first | apply t_move | apply t_assign | apply t_addr (fRec _ (by decide)) | apply t_addr (fCom _ (by decide)) | apply t_one tByteR | apply t_one tSlR | apply t_one tIntR | apply t_one tStrO | apply t_part tCom) <;> (first | (apply EvC.gv; exact rfl; (with_reducible first | exact Imp.refl _ | (apply Imp.left; exact Imp.refl _) | (apply Imp.right; exact Imp.refl _) | (apply Imp.left; apply Imp.left; exact Imp.refl _))) | (apply EvC.now; exact rfl) | exact rfl | (with_reducible exact EvAll.nil) | (focus (repeat (first | apply EvAll.cons | exact EvAll.nil | (apply EvC.gv; exact rfl; (with_reducible first | exact Imp.refl _ | (apply Imp.left; exact Imp.refl _) | (apply Imp.right; exact Imp.refl _) | (apply Imp.left; apply Imp.left; exact Imp.refl _))) | (apply EvC.now; exact rfl))); done) | exact ext_com _ | (focus (repeat (first | apply List.Mem.head | apply List.Mem.tail | apply List.mem_append_right))))) | ((with_reducible apply t_pick); (apply EvC.now; exact rfl); (apply EvC.now; exact rfl))); (simp only [List.set_cons_succ, List.set_cons_zero]; exact rfl))
        | ((with_reducible apply wpT1_skipL); exact rfl; (simp only [List.set_cons_succ, List.set_cons_zero]; exact rfl)))
    refine wpT_nil ?_
    refine wpG_callO hR (i := 40) (by kernel_rfl) Try.call12 rfl rfl rfl ?_
    clear hR; intro w3 hR
    refine (namRemark_any z _ hzo (by omega)).mono ?_
    rintro e w4 ⟨sz, vz, rfl, hO, hV2⟩
    rw [HZB.out] at hV2
    replace hR := hR.tail.join hO
    clear hO
    refine ⟨_, rfl, hR.right, ?_⟩
    simp only [List.set_cons_succ, List.set_cons_zero]
    refine wpG_q hR (i := 41) (by kernel_rfl) rfl rfl (t_fieldV (fvRec _ _) (EvC.now rfl)) (by (simp only [List.set_cons_succ, List.set_cons_zero]; exact rfl)) (List.sublist_append_right _ _) ?_
    clear hR; intro w hR
    refine wpG_q hR (i := 42) (by kernel_rfl) rfl rfl (t_strW tTextN (EvC.now rfl) (fun w hC => hV2 _ _ _ hC (fun r h => List.mem_append_left _ h))) (by (simp only [List.set_cons_succ, List.set_cons_zero]; exact rfl)) (List.sublist_append_right _ _) ?_
    clear hR; intro w hR
    refine wpG_of_wpT (by kernel_rfl) (fun _ _ _ h => h) 0 _ [49, 50, 51, 52] _ _ (by kernel_rfl) ?_
    repeat (refine wpT_step rfl ?_; first
        | ((with_reducible apply q_kn); exact rfl; (with_reducible apply t_call Try.call8); (first | (apply EvC.gv; exact rfl; (with_reducible first | exact Imp.refl _ | (apply Imp.left; exact Imp.refl _) | (apply Imp.right; exact Imp.refl _) | (apply Imp.left; apply Imp.left; exact Imp.refl _))) | (apply EvC.now; exact rfl) | exact rfl | (with_reducible exact EvAll.nil) | (focus (repeat (first | apply EvAll.cons | exact EvAll.nil | (apply EvC.gv; exact rfl; (with_reducible first | exact Imp.refl _ | (apply Imp.left; exact Imp.refl _) | (apply Imp.right; exact Imp.refl _) | (apply Imp.left; apply Imp.left; exact Imp.refl _))) | (apply EvC.now; exact rfl))); done) | exact ext_com _ | (focus (repeat (first | apply List.Mem.head | apply List.Mem.tail | apply List.mem_append_right)))); (intro hcc w hC; exact tame_below (awake20_any _) hC); (simp only [List.set_cons_succ, List.set_cons_zero]; exact rfl))
        | ((with_reducible apply q_kn); exact rfl; (with_reducible apply t_strW tTextN); (apply EvC.now; exact rfl); (first | (with_reducible exact fun w hC => hS.own hC) | exact fun w hC => hV _ _ _ hC (fun r h => .tail _ (.tail _ (.tail _ (List.mem_append_left _ h))))); (simp only [List.set_cons_succ, List.set_cons_zero]; exact rfl))
        | ((with_reducible apply q_kn); exact rfl; (with_reducible apply t_strsame); (apply EvC.now; exact rfl); (apply EvC.now; exact rfl); (simp only [List.set_cons_succ, List.set_cons_zero]; exact rfl))
        | ((with_reducible apply q_kn); exact rfl; (with_reducible apply t_catE); (apply EvC.now; exact rfl); (apply EvC.now; exact rfl); (simp only [List.length_cons, List.length_nil]; omega); exact HCB.out; (simp only [List.set_cons_succ, List.set_cons_zero]; exact rfl))
        | ((with_reducible apply q_kn); exact rfl; (with_reducible apply t_eql gCom); (apply EvC.now; exact rfl); (apply EvC.now; exact rfl); exact eqB_com _; (simp only [List.set_cons_succ, List.set_cons_zero]; exact rfl))
        | ((with_reducible apply q_kn); exact rfl; (with_reducible apply t_cmp); (apply EvC.now; exact rfl); (apply EvC.now; exact rfl); (with_reducible first | exact cmp_self _ | exact c20 | exact c00); (simp only [List.set_cons_succ, List.set_cons_zero]; exact rfl))
        | ((with_reducible apply q_kn); exact rfl; (with_reducible apply t_lenW Try.underlying22); (apply EvC.now; exact rfl); exact hS0; (simp only [List.set_cons_succ, List.set_cons_zero]; exact rfl))
        | ((with_reducible apply q_kn); exact rfl; (with_reducible apply t_minK); (apply EvC.now; exact rfl); (apply EvC.now; exact rfl); exact HM2.out; (simp only [List.set_cons_succ, List.set_cons_zero]; exact rfl))
        | ((with_reducible apply q_kn); exact rfl; (with_reducible apply t_cutH tBytesN hS0); (apply EvC.now; exact rfl); (apply EvC.now; exact rfl); exact rfl; exact hmb; (simp only [List.set_cons_succ, List.set_cons_zero]; exact rfl))
        | ((with_reducible apply q_kn); exact rfl; ((with_reducible first | apply t_addr (fRec _ (by decide)) | apply t_addr (fCom _ (by decide)) | apply t_one tByteR | apply t_one tSlR | apply t_one tIntR | apply t_one tStrO | apply t_part tCom) <;> (first | (apply EvC.gv; exact rfl; (with_reducible first | exact Imp.refl _ | (apply Imp.left; exact Imp.refl _) | (apply Imp.right; exact Imp.refl _) | (apply Imp.left; apply Imp.left; exact Imp.refl _))) | (apply EvC.now; exact rfl) | exact rfl | (with_reducible exact EvAll.nil) | (focus (repeat (first | apply EvAll.cons | exact EvAll.nil | (apply EvC.gv; exact rfl; (with_reducible first | exact Imp.refl _ | (apply Imp.left; exact Imp.refl _) | (apply Imp.right; exact Imp.refl _) | (apply Imp.left; apply Imp.left; exact Imp.refl _))) | (apply EvC.now; exact rfl))); done) | exact ext_com _ | (focus (repeat (first | apply List.Mem.head | apply List.Mem.tail | apply List.mem_append_right))))); (simp only [List.set_cons_succ, List.set_cons_zero]; exact rfl))
        | ((with_reducible apply q_kn); exact rfl; (first | ((with_reducible first | apply t_move | apply t_assign | apply t_addr (fRec _ (by decide)) | apply t_addr (fCom _ (by decide)) | apply t_one tByteR | apply t_one tSlR | apply t_one tIntR | apply t_one tStrO | apply t_part tCom) <;> (first | (apply EvC.gv; exact rfl; (with_reducible first | exact Imp.refl _ | (apply Imp.left; exact Imp.refl _) | (apply Imp.right; exact Imp.refl _) | (apply Imp.left; apply Imp.left; exact Imp.refl _))) | (apply EvC.now; exact rfl) | exact rfl | (with_reducible exact EvAll.nil) | (focus (repeat (first | apply EvAll.cons | exact EvAll.nil | (apply EvC.gv; exact rfl; (with_reducible first | exact Imp.refl _ | (apply Imp.left; exact Imp.refl _) | (apply Imp.right; exact Imp.refl _) | (apply Imp.left; apply Imp.left; exact Imp.refl _))) | (apply EvC.now; exact rfl))); done) | exact ext_com _ | (focus (repeat (first | apply List.Mem.head | apply List.Mem.tail | apply List.mem_append_right))))) | ((with_reducible apply t_pick); (apply EvC.now; exact rfl); (apply EvC.now; exact rfl))); (simp only [List.set_cons_succ, List.set_cons_zero]; exact rfl))
        | ((with_reducible apply wpT1_skipL); exact rfl; (simp only [List.set_cons_succ, List.set_cons_zero]; exact rfl)))
    refine wpT_nil ?_
    refine wpG_end hR (by kernel_rfl) ?_
    clear hR; intro w hR
    go_wp2_with fail
    go_ret
    exact ⟨rfl, hR.below⟩
  · have HCOM := Lib.hid (com_less (hbl2 (by omega)))
    have HLT := Lib.hid (show cmpB .lss (body.length : Int) 2 = some true from congrArg some (decide_eq_true (by omega)))
    clear h2 hbl2 hbl3
    go_upto_region 6 with (first
        | ((with_reducible apply q_ls hR); exact rfl; (with_reducible apply t_lenW Try.underlying22); (apply EvC.now; exact rfl); exact hS0; (simp only [List.set_cons_succ, List.set_cons_zero]; exact rfl); clear hR; intro w hR)
        | ((with_reducible apply q_ls hR); exact rfl; (with_reducible apply t_minK); (apply EvC.now; exact rfl); (apply EvC.now; exact rfl); (exact HM2.out); (simp only [List.set_cons_succ, List.set_cons_zero]; exact rfl); clear hR; intro w hR)
        | ((with_reducible apply q_ls hR); exact rfl; (with_reducible apply t_cutH tBytesN hS0); (apply EvC.now; exact rfl); (apply EvC.now; exact rfl); exact rfl; (exact hmb); (simp only [List.set_cons_succ, List.set_cons_zero]; exact rfl); clear hR; intro w hR)
        | (go_at_call 13; refine (namComment_any (hS.own hR) (by omega)).mono ?_; rw [HCOM.out]; rintro e w' ⟨rfl, hb⟩; replace hR := hR.grow hb; clear hb)
        | ((with_reducible apply wpList_make hR zCom); exact rfl; clear hR; intro g w hR; simp only [List.set_cons_succ, List.set_cons_zero])
        | ((with_reducible apply wpList_put hR tCom); exact rfl; exact rfl; exact rfl; (focus (repeat (first | apply List.Mem.head | apply List.Mem.tail | apply List.mem_append_right))); exact put_com _ _; exact rfl; simp [encCom]; exact one_com _; (focus (repeat (first | apply Upd.head | apply Upd.tail))); clear hR; intro w hR))
    go_upto_if 40 with (first
        | ((with_reducible apply q_ls hR); exact rfl; (with_reducible apply t_lenW Try.underlying22); (apply EvC.now; exact rfl); exact hS0; (simp only [List.set_cons_succ, List.set_cons_zero]; exact rfl); clear hR; intro w hR)
        | ((with_reducible apply q_ls hR); exact rfl; (with_reducible apply t_cmp); (apply EvC.now; exact rfl); (apply EvC.now; exact rfl); exact HLT.out; (simp only [List.set_cons_succ, List.set_cons_zero]; exact rfl); clear hR; intro w hR))
    refine wp_cond_at (nm := true) rfl rfl (fun hc => ?_) (fun hc => ?_)
    all_goals first
      | exact absurd hc (by decide)
      | skip
    go_upto_region 9 with fail
    refine wp_region_some hR _ (List.Sublist.refl _) [0, 1, 2, 3, 4, 5, 6, 7, 8, 9, 10, 11, 12, 13, 16, 17] 37 (by kernel_rfl) (by kernel_rfl) (by kernel_rfl) rfl ?_
    clear hR; intro hR
    repeat (refine wpT_step rfl ?_; first
        | ((with_reducible apply q_kn); exact rfl; (with_reducible apply t_call Try.call8); (first | (apply EvC.gv; exact rfl; (with_reducible first | exact Imp.refl _ | (apply Imp.left; exact Imp.refl _) | (apply Imp.right; exact Imp.refl _) | (apply Imp.left; apply Imp.left; exact Imp.refl _))) | (apply EvC.now; exact rfl) | exact rfl | (with_reducible exact EvAll.nil) | (focus (repeat (first | apply EvAll.cons | exact EvAll.nil | (apply EvC.gv; exact rfl; (with_reducible first | exact Imp.refl _ | (apply Imp.left; exact Imp.refl _) | (apply Imp.right; exact Imp.refl _) | (apply Imp.left; apply Imp.left; exact Imp.refl _))) | (apply EvC.now; exact rfl))); done) | exact ext_com _ | (focus (repeat (first | apply List.Mem.head | apply List.Mem.tail | apply List.mem_append_right)))); (intro hcc w hC; exact tame_below (awake20_any _) hC); (simp only [List.set_cons_succ, List.set_cons_zero]; exact rfl))
        | ((with_reducible apply q_kn); exact rfl; (with_reducible apply t_strW tTextN); (apply EvC.now; exact rfl); (first | (with_reducible exact fun w hC => hS.own hC) | exact fun w hC => hV _ _ _ hC (fun r h => .tail _ (.tail _ (.tail _ (List.mem_append_left _ h))))); (simp only [List.set_cons_succ, List.set_cons_zero]; exact rfl))
        | ((with_reducible apply q_kn); exact rfl; (with_reducible apply t_strsame); (apply EvC.now; exact rfl); (apply EvC.now; exact rfl); (simp only [List.set_cons_succ, List.set_cons_zero]; exact rfl))
        | ((with_reducible apply q_kn); exact rfl; (with_reducible apply t_catE); (apply EvC.now; exact rfl); (apply EvC.now; exact rfl); (simp only [List.length_cons, List.length_nil]; omega); exact HCB.out; (simp only [List.set_cons_succ, List.set_cons_zero]; exact rfl))
        | ((with_reducible apply q_kn); exact rfl; (with_reducible apply t_eql gCom); (apply EvC.now; exact rfl); (apply EvC.now; exact rfl); exact eqB_com _; (simp only [List.set_cons_succ, List.set_cons_zero]; exact rfl))
        | ((with_reducible apply q_kn); exact rfl; (with_reducible apply t_cmp); (apply EvC.now; exact rfl); (apply EvC.now; exact rfl); (with_reducible first | exact cmp_self _ | exact c20 | exact c00); (simp only [List.set_cons_succ, List.set_cons_zero]; exact rfl))
        | ((with_reducible apply q_kn); exact rfl; (with_reducible apply t_lenW Try.underlying22); (apply EvC.now; exact rfl); exact hS0; (simp only [List.set_cons_succ, List.set_cons_zero]; exact rfl))
        | ((with_reducible apply q_kn); exact rfl; (with_reducible apply t_minK); (apply EvC.now; exact rfl); (apply EvC.now; exact rfl); exact HM2.out; (simp only [List.set_cons_succ, List.set_cons_zero]; exact rfl))
        | ((with_reducible apply q_kn); exact rfl; (with_reducible apply t_cutH tBytesN hS0); (apply EvC.now; exact rfl); (apply EvC.now; exact rfl); exact rfl; exact hmb; (simp only [List.set_cons_succ, List.set_cons_zero]; exact rfl))
        | ((with_reducible apply q_kn); exact rfl; ((with_reducible first | apply t_addr (fRec _ (by decide)) | apply t_addr (fCom _ (by decide)) | apply t_one tByteR | apply t_one tSlR | apply t_one tIntR | apply t_one tStrO | apply t_part tCom) <;> (first | (apply EvC.gv; exact rfl; (with_reducible first | exact Imp.refl _ | (apply Imp.left; exact Imp.refl _) | (apply Imp.right; exact Imp.refl _) | (apply Imp.left; apply Imp.left; exact Imp.refl _))) | (apply EvC.now; exact rfl) | exact rfl | (with_reducible exact EvAll.nil) | (focus (repeat (first | apply EvAll.cons | exact EvAll.nil | (apply EvC.gv; exact rfl; (with_reducible first | exact Imp.refl _ | (apply Imp.left; exact Imp.refl _) | (apply Imp.right; exact Imp.refl _) | (apply Imp.left; apply Imp.left; exact Imp.refl _))) | (apply EvC.now; exact rfl))); done) | exact ext_com _ | (focus (repeat (first | apply List.Mem.head | apply List.Mem.tail | apply List.mem_append_right))))); (simp only [List.set_cons_succ, List.set_cons_zero]; exact rfl))
        | ((with_reducible apply q_kn); exact rfl; (first | ((with_reducible first | apply t_move | apply t_assign | apply t_addr (fRec _ (by decide)) | apply t_addr (fCom _ (by decide)) | apply t_one tByteR | apply t_one tSlR | apply t_one tIntR | apply t_one tStrO | apply t_part tCom) <;> (first | (apply EvC.gv; exact rfl; (with_reducible first | exact Imp.refl _ | (apply Imp.left; exact Imp.refl _) | (apply Imp.right; exact Imp.refl _) | (apply Imp.left; apply Imp.left; exact Imp.refl _))) | (apply EvC.now; exact rfl) | exact rfl | (with_reducible exact EvAll.nil) | (focus (repeat (first | apply EvAll.cons | exact EvAll.nil | (apply EvC.gv; exact rfl; (with_reducible first | exact Imp.refl _ | (apply Imp.left; exact Imp.refl _) | (apply Imp.right; exact Imp.refl _) | (apply Imp.left; apply Imp.left; exact Imp.refl _))) | (apply EvC.now; exact rfl))); done) | exact ext_com _ | (focus (repeat (first | apply List.Mem.head | apply List.Mem.tail | apply List.mem_append_right))))) | ((with_reducible apply t_pick); (apply EvC.now; exact rfl); (apply EvC.now; exact rfl))); (simp only [List.set_cons_succ, List.set_cons_zero]; exact rfl))
        | ((with_reducible apply wpT1_skipL); exact rfl; (simp only [List.set_cons_succ, List.set_cons_zero]; exact rfl)))
    refine wpT_nil ?_
    refine wpG_buildS hR (i := 14) (by kernel_rfl) rfl rfl rfl (bB2 _ _) (List.Sublist.refl _) ?_
    clear hR; intro g7 w hR
    simp only [List.set_cons_succ, List.set_cons_zero]
    refine wpG_q hR (i := 15) (by kernel_rfl) rfl rfl (t_strW tTextN (EvC.now rfl) (fun w hC => src_row hC (.head _) rfl hab (by simp))) (by (simp only [List.set_cons_succ, List.set_cons_zero]; exact rfl)) (List.Sublist.cons _ (List.Sublist.refl _)) ?_
    clear hR; intro w hR
    refine wpG_of_wpT (by kernel_rfl) (fun _ _ _ h => h) 0 _ [18, 19, 20, 21, 22, 23, 24, 25, 26, 27, 28, 29, 30, 31, 32, 33, 34, 35, 36, 37, 38, 39, 40, 41, 42, 43, 44, 45, 46, 47, 48, 49, 50, 51, 52] _ _ (by kernel_rfl) ?_
    repeat (refine wpT_step rfl ?_; first
        | ((with_reducible apply q_kn); exact rfl; (with_reducible apply t_call Try.call8); (first | (apply EvC.gv; exact rfl; (with_reducible first | exact Imp.refl _ | (apply Imp.left; exact Imp.refl _) | (apply Imp.right; exact Imp.refl _) | (apply Imp.left; apply Imp.left; exact Imp.refl _))) | (apply EvC.now; exact rfl) | exact rfl | (with_reducible exact EvAll.nil) | (focus (repeat (first | apply EvAll.cons | exact EvAll.nil | (apply EvC.gv; exact rfl; (with_reducible first | exact Imp.refl _ | (apply Imp.left; exact Imp.refl _) | (apply Imp.right; exact Imp.refl _) | (apply Imp.left; apply Imp.left; exact Imp.refl _))) | (apply EvC.now; exact rfl))); done) | exact ext_com _ | (focus (repeat (first | apply List.Mem.head | apply List.Mem.tail | apply List.mem_append_right)))); (intro hcc w hC; exact tame_below (awake20_any _) hC); (simp only [List.set_cons_succ, List.set_cons_zero]; exact rfl))
        | ((with_reducible apply q_kn); exact rfl; (with_reducible apply t_strW tTextN); (apply EvC.now; exact rfl); (first | (with_reducible exact fun w hC => hS.own hC) | exact fun w hC => hV _ _ _ hC (fun r h => .tail _ (.tail _ (.tail _ (List.mem_append_left _ h))))); (simp only [List.set_cons_succ, List.set_cons_zero]; exact rfl))
        | ((with_reducible apply q_kn); exact rfl; (with_reducible apply t_strsame); (apply EvC.now; exact rfl); (apply EvC.now; exact rfl); (simp only [List.set_cons_succ, List.set_cons_zero]; exact rfl))
        | ((with_reducible apply q_kn); exact rfl; (with_reducible apply t_catE); (apply EvC.now; exact rfl); (apply EvC.now; exact rfl); (simp only [List.length_cons, List.length_nil]; omega); exact HCB.out; (simp only [List.set_cons_succ, List.set_cons_zero]; exact rfl))
        | ((with_reducible apply q_kn); exact rfl; (with_reducible apply t_eql gCom); (apply EvC.now; exact rfl); (apply EvC.now; exact rfl); exact eqB_com _; (simp only [List.set_cons_succ, List.set_cons_zero]; exact rfl))
        | ((with_reducible apply q_kn); exact rfl; (with_reducible apply t_cmp); (apply EvC.now; exact rfl); (apply EvC.now; exact rfl); (with_reducible first | exact cmp_self _ | exact c20 | exact c00); (simp only [List.set_cons_succ, List.set_cons_zero]; exact rfl))
        | ((with_reducible apply q_kn); exact rfl; (with_reducible apply t_lenW Try.underlying22); (apply EvC.now; exact rfl); exact hS0; (simp only [List.set_cons_succ, List.set_cons_zero]; exact rfl))
        | ((with_reducible apply q_kn); exact rfl; (with_reducible apply t_minK); (apply EvC.now; exact rfl); (apply EvC.now; exact rfl); exact HM2.out; (simp only [List.set_cons_succ, List.set_cons_zero]; exact rfl))
        | ((with_reducible apply q_kn); exact rfl; (with_reducible apply t_cutH tBytesN hS0); (apply EvC.now; exact rfl); (apply EvC.now; exact rfl); exact rfl; exact hmb; (simp only [List.set_cons_succ, List.set_cons_zero]; exact rfl))
        | ((with_reducible apply q_kn); exact rfl; ((with_reducible first | apply t_addr (fRec _ (by decide)) | apply t_addr (fCom _ (by decide)) | apply t_one tByteR | apply t_one tSlR | apply t_one tIntR | apply t_one tStrO | apply t_part tCom) <;> (first | (apply EvC.gv; exact rfl; (with_reducible first | exact Imp.refl _ | (apply Imp.left; exact Imp.refl _) | (apply Imp.right; exact Imp.refl _) | (apply Imp.left; apply Imp.left; exact Imp.refl _))) | (apply EvC.now; exact rfl) | exact rfl | (with_reducible exact EvAll.nil) | (focus (repeat (first | apply EvAll.cons | exact EvAll.nil | (apply EvC.gv; exact rfl; (with_reducible first | exact Imp.refl _ | (apply Imp.left; exact Imp.refl _) | (apply Imp.right; exact Imp.refl _) | (apply Imp.left; apply Imp.left; exact Imp.refl _))) | (apply EvC.now; exact rfl))); done) | exact ext_com _ | (focus (repeat (first | apply List.Mem.head | apply List.Mem.tail | apply List.mem_append_right))))); (simp only [List.set_cons_succ, List.set_cons_zero]; exact rfl))
        | ((with_reducible apply q_kn); exact rfl; (first | ((with_reducible first | apply t_move | apply t_assign | apply t_addr (fRec _ (by decide)) | apply t_addr (fCom _ (by decide)) | apply t_one tByteR | apply t_one tSlR | apply t_one tIntR | apply t_one tStrO | apply t_part tCom) <;> (first | (apply EvC.gv; exact rfl; (with_reducible first | exact Imp.refl _ | (apply Imp.left; exact Imp.refl _) | (apply Imp.right; exact Imp.refl _) | (apply Imp.left; apply Imp.left; exact Imp.refl _))) | (apply EvC.now; exact rfl) | exact rfl | (with_reducible exact EvAll.nil) | (focus (repeat (first | apply EvAll.cons | exact EvAll.nil | (apply EvC.gv; exact rfl; (with_reducible first | exact Imp.refl _ | (apply Imp.left; exact Imp.refl _) | (apply Imp.right; exact Imp.refl _) | (apply Imp.left; apply Imp.left; exact Imp.refl _))) | (apply EvC.now; exact rfl))); done) | exact ext_com _ | (focus (repeat (first | apply List.Mem.head | apply List.Mem.tail | apply List.mem_append_right))))) | ((with_reducible apply t_pick); (apply EvC.now; exact rfl); (apply EvC.now; exact rfl))); (simp only [List.set_cons_succ, List.set_cons_zero]; exact rfl))
        | ((with_reducible apply wpT1_skipL); exact rfl; (simp only [List.set_cons_succ, List.set_cons_zero]; exact rfl)))
    refine wpT_nil ?_
    refine wpG_end hR (by kernel_rfl) ?_
    clear hR; intro w hR
    go_wp2_with fail
    go_ret
    exact ⟨rfl, hR.below⟩

set_option maxRecDepth 100000 in
theorem lifted (os : Os) (started : os.Started) (H : Type) (enc : TypeId × Value → H) :
    ReturnsInHanded {} Try.checked os 5 .any (Rows.namesRemarkSpec.pre6 enc Try.prog Try.f5 Rows.namesRemarkRow.domain false) (Rows.namesRemarkSpec.post enc Try.prog Try.f5 false true false false) := by
  refine returnsInHanded_of_change (C := Try.checked) own started (by kernel_rfl) Try.func5
    (ChangeSpec.witness6 (enc := enc) (C := Try.checked) false ⟨#[], #[.agg (encCom zeroC), .slice none 0 0], []⟩ 8 (by kernel_rfl) (by kernel_rfl) (by kernel_rfl) (by kernel_rfl)) ?_
  intro W base args ds gs before hval0 hW hcnd _
  have hval : ∀ (j : Nat) t v, Try.f5.params[j]? = some t → args[j]? = some v → Value.okWide Try.prog W .any base t v := hval0
  have hW' := hW
  obtain ⟨p, q, hA0, hV, rfl, hfz, hnd⟩ := hW
  have hA : DataW.TrodAll enc Try.prog W 0 (fun _ => true) true Try.f5.params.toList args.toList ds p := hA0
  rw [Try.params5] at hA hval
  obtain ⟨v0, vs0, d0, ds0, p0, q0, hargs, rfl, rfl, h0, r0⟩ := trodAll_cons hA
  obtain ⟨v1, vs1, d1, ds1, p1, q1, rfl, rfl, rfl, h1, r1⟩ := trodAll_cons r0
  obtain ⟨rfl, rfl, rfl⟩ := trodAll_nil r1
  obtain rfl : args = #[v0, v1] := by cases args; simp_all
  obtain ⟨rfl, rfl⟩ := trodVars_none hV
  have k0 := h0
  have lt0 : ∀ x ∈ p0, x.block < W.heap.size := by obtain ⟨m, hm⟩ := k0; exact DataW.trod_lt m _ _ _ hm
  have k1 := h1
  have lt1 : ∀ x ∈ p1, x.block < W.heap.size := by obtain ⟨m, hm⟩ := k1; exact DataW.trod_lt m _ _ _ hm
  have o1 := open_bytes (hval 1 22 v1 rfl rfl) h1
  clear hA0 hval0
  refine (walk v0 (hval 0 38 v0 rfl rfl) v1 o1 W).mono fun e W' ⟨he, bel⟩ => ?_
  subst he
  exact ⟨_, rfl, _, _, _, [], _, [], hW', trodAll_mk1 (shut_bool Try.underlying4 _), (trodAll_cons_mk (Below.trod laidOut (by kernel_rfl) (of_decide_eq_true (by kernel_rfl)) k0 bel lt0) (trodAll_cons_mk (Below.trod laidOut (by kernel_rfl) (of_decide_eq_true (by kernel_rfl)) k1 bel lt1) trodAll_mk0)), rfl, bel.frame _, fun h => by cases h⟩

theorem over : Rows.namesRemarkRow.holds Try.pinned (OpenSpec.ofChange Rows.namesRemarkSpec) :=
  OpenClaim.holds_of_wide 5 Try.f5 rfl rfl rfl rfl rfl rfl rfl ⟨rfl, rfl, rfl, rfl, rfl⟩ rfl rfl rfl rfl rfl (by kernel_rfl) Try.func5 (by kernel_rfl)
    (of_decide_eq_true (by kernel_rfl)) (by unfold Func.isWrapper; first | (rw [if_pos (by decide +kernel)]; kernel_rfl) | (rw [if_neg (by decide +kernel)]; exact ⟨rfl, rfl⟩))
    (fun os started H enc _ => lifted os started H enc)

theorem proved : Rows.NamesRemarkSaid := over
#print axioms proved
end Go.Proofs.Ytlnicbjnphineaa.namesRemark
