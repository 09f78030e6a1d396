/- The law ScanBack (an instruction's bytes are read as it, whatever stands behind them; without the last one bytes are missing) returns true whatever the arguments, and each argument reads afterwards as before. There is no condition on the arguments. -/
import Derived.Test.YtnhlogameldkfaaRows
import Derived.Test.YtnhlogameldkfaaScanG
import Derived.Deep.CutBlock
import Derived.Test.YtnhlogameldkfaaOpen
import Derived.WalkKit
import Derived.ProofKit
import Derived.OpenShut
import Derived.ShutString
import Derived.ChangeOld
import Derived.Below
namespace Go.Proofs.Ytnhlogameldkfaa.scanBack
open Go.ChangeShapes Go.WideShapes Go.ChangeAt Go.RowKit
open Go.ChangeMaps (open_string shut_string)
set_option linter.unusedVariables false
set_option linter.unusedSimpArgs false

theorem own : ownKnob Try.prog.godebug = none := by kernel_rfl
theorem laidOut : laidOutB Try.prog = true := by kernel_rfl






theorem tText : TextTy Try.prog 26 5 9 := ⟨Try.underlying26, Try.underlying5, Try.underlying9⟩
theorem tStr : StrTy Try.prog 26 9 5 := .of Try.underlying26 Try.underlying9 (by kernel_rfl)
theorem onesB (ns : List Int) : (cellsB ns).all (·.oneCell') = true := by
  rw [List.all_eq_true]
  intro x hx
  obtain ⟨n, _, rfl⟩ := List.mem_map.1 hx
  rfl
theorem lenB (ns : List Int) : (cellsB ns).length = ns.length * 1 := by rw [cellsB_len, Nat.mul_one]
theorem eq_self (i : InstZ) : eqB Try.prog 9 24 (.agg (encI i)) (.agg (encI i)) = some true := by rw [eqB_inst, (instEq_iff i i).2 rfl]
/-- What the region that reads it has come to. -/
def MidIs (w0 : World) (R : List RowT) (i : InstZ) (n : Nat) (v7 v8 v9 : Value) (wx : World) : Prop :=
  ∃ g7, v7 = .pointer (some ⟨g7, 0, none⟩) ∧ v8 = .int .i64 (n : Int) ∧ v9 = .int .i64 0 ∧ Own w0 wx ((g7, encI i, 24) :: R)
set_option maxHeartbeats 8000000 in
set_option maxRecDepth 100000 in
theorem walk {base : Nat} {W : World} (v0 : Value) (k0 : Value.okWide Try.prog W .any base 24 v0) (more : ByteArray) (w1 : more.size ≤ maxLen) (w0 : World) :
    Calls Try.prog 3 #[v0, .string more] w0 fun e w' => e = .returned (.bool true) ∧ Below w0.heap.size w0 w' := by
  obtain ⟨x, hx, rfl⟩ := open_inst k0
  clear k0
  have hR := Own.start w0
  unfold maxLen at w1
  go_enter Try.func3, Try.ntmps3
  go_upto_region 2 with (first
    | ((with_reducible apply wpList_box hR); exact rfl; exact rfl; clear hR; intro g w hR; simp only [List.set_cons_succ, List.set_cons_zero])
    | ((with_reducible apply wpList_make hR zInst); exact rfl; clear hR; intro g2 w hR; simp only [List.set_cons_succ, List.set_cons_zero])
    | ((with_reducible apply q_ls hR); exact rfl; ((with_reducible first | apply t_addr (fRd _ (by decide)) | apply t_addr (fInst _ (by decide)) | apply t_addr (fRow _ (by decide)) | apply t_one tInt | apply t_one tWord | apply t_one tByte | apply t_one tBool | apply t_one tSlB | apply t_part tInst | apply t_part tRow) <;> (first | (apply EvC.gv; exact rfl; (with_reducible first | exact Imp.refl _ | (apply Imp.left; exact Imp.refl _) | (apply Imp.right; exact Imp.refl _) | (apply Imp.left; apply Imp.left; exact Imp.refl _))) | (apply EvC.now; exact rfl) | exact rfl | (with_reducible exact EvAll.nil) | (focus (repeat (first | apply EvAll.cons | exact EvAll.nil | (apply EvC.gv; exact rfl; (with_reducible first | exact Imp.refl _ | (apply Imp.left; exact Imp.refl _) | (apply Imp.right; exact Imp.refl _) | (apply Imp.left; apply Imp.left; exact Imp.refl _))) | (apply EvC.now; exact rfl))); done) | (first | apply ext_inst | apply ext_row) | (focus (repeat (first | apply List.Mem.head | apply List.Mem.tail | apply List.mem_append_right))))); (simp only [List.set_cons_succ, List.set_cons_zero]; exact rfl); clear hR; intro w hR)
    | ((with_reducible apply wpList_put hR tInst); exact rfl; exact rfl; exact rfl; (focus (repeat (first | apply List.Mem.head | apply List.Mem.tail | apply List.mem_append_right))); apply put_inst; exact rfl; simp [encI]; apply one_inst; (focus (repeat (first | apply Upd.head | apply Upd.tail))); clear hR; intro w hR)
    | (go_at_call 6; refine (near_fun x hx _).mono ?_; rintro e w' ⟨rfl, hb⟩; replace hR := hR.grow hb; clear hb))
  have hi := nearF_ok x hx
  have mi := nearF_may x
  generalize nearF x = i at hR hi mi
  have fi := fine_of i hi mi
  have mc : mayC i = true := by rw [may_same i hi]; exact mi
  have hpk := putN_ok i fi
  obtain ⟨hp1, hp9⟩ := putN_le i hi mc
  go_upto_region 3 with (first
    | ((with_reducible apply wpList_box hR); exact rfl; exact rfl; clear hR; intro g w hR; simp only [List.set_cons_succ, List.set_cons_zero])
    | ((with_reducible apply wpList_make hR zInst); exact rfl; clear hR; intro g2 w hR; simp only [List.set_cons_succ, List.set_cons_zero])
    | ((with_reducible apply q_ls hR); exact rfl; ((with_reducible first | apply t_addr (fRd _ (by decide)) | apply t_addr (fInst _ (by decide)) | apply t_addr (fRow _ (by decide)) | apply t_one tInt | apply t_one tWord | apply t_one tByte | apply t_one tBool | apply t_one tSlB | apply t_part tInst | apply t_part tRow) <;> (first | (apply EvC.gv; exact rfl; (with_reducible first | exact Imp.refl _ | (apply Imp.left; exact Imp.refl _) | (apply Imp.right; exact Imp.refl _) | (apply Imp.left; apply Imp.left; exact Imp.refl _))) | (apply EvC.now; exact rfl) | exact rfl | (with_reducible exact EvAll.nil) | (focus (repeat (first | apply EvAll.cons | exact EvAll.nil | (apply EvC.gv; exact rfl; (with_reducible first | exact Imp.refl _ | (apply Imp.left; exact Imp.refl _) | (apply Imp.right; exact Imp.refl _) | (apply Imp.left; apply Imp.left; exact Imp.refl _))) | (apply EvC.now; exact rfl))); done) | (first | apply ext_inst | apply ext_row) | (focus (repeat (first | apply List.Mem.head | apply List.Mem.tail | apply List.mem_append_right))))); (simp only [List.set_cons_succ, List.set_cons_zero]; exact rfl); clear hR; intro w hR)
    | ((with_reducible apply wpList_put hR tInst); exact rfl; exact rfl; exact rfl; (focus (repeat (first | apply List.Mem.head | apply List.Mem.tail | apply List.mem_append_right))); apply put_inst; exact rfl; simp [encI]; apply one_inst; (focus (repeat (first | apply Upd.head | apply Upd.tail))); clear hR; intro w hR)
    | (go_at_call 7; refine (put5_bytes i hi mi _).mono ?_; rintro e w' ⟨gB, cB, capB, rfl, hO, hB⟩; replace hR := hR.join hO; clear hO))
  simp only [List.cons_append, List.nil_append] at hR
  obtain ⟨K, hK⟩ : ∃ K : Nat, K = min more.size 9 := ⟨_, rfl⟩
  have HK : Hid ((if (9 : Int) < (more.size : Int) then (9 : Int) else (more.size : Int)) = (K : Int)) := Lib.hid (by split <;> omega)
  have hK1 : K ≤ more.size := by omega
  have hK9 : K ≤ 9 := by omega
  clear hK
  have hsz := size_cut more K hK1
  have hD0 : RwIs 1 (#[] : Array Value) 0 0 [] := RwIs.all rfl (by decide)
  have hg : ∀ (w : World) (L : List RowT) (g n cap : Nat) (cur : Array Value), Own w0 w L → (g, cur, 5) ∈ L → RwIs 1 cur n cap (([] ++ cellsB (putN i)) ++ Lib.strCells (more.extract 0 K)) →
      Calls Try.prog 8 #[.slice (some ⟨g, 0, none⟩) n cap] w fun en w' => en = .returned (.tuple #[.agg (encI i), .int .i64 ((putN i).length : Int), .int .i64 0]) ∧ Below w.heap.size w w' := by
    intro w L g n cap cur hO hm hS
    have e1 : ([] ++ cellsB (putN i)) ++ Lib.strCells (more.extract 0 K) = cellsB (putN i ++ strN more K) := by rw [List.nil_append, strN_cells, cellsB_append]
    rw [e1] at hS
    have hb : bytesOk (putN i ++ strN more K) := fun n hn => (List.mem_append.1 hn).elim (hpk n) (strN_ok more K n)
    have hl : (putN i ++ strN more K).length = (putN i).length + K := by rw [List.length_append, strN_len _ _ hK1]
    have := get_any (bs := putN i ++ strN more K) ⟨SrcW.ofRw hO hm hS hb, by rw [hl]; omega⟩
    rw [inst_back i fi mc] at this
    refine this.mono ?_
    rintro en w' ⟨rfl, hb⟩
    refine ⟨?_, hb⟩
    unfold getV
    simp only [hl, strN_len _ _ hK1, Nat.add_sub_cancel]
  have HG := Lib.hid hg
  clear hg
  go_cut [7, 8, 9] (fun v7 v8 v9 wx => MidIs w0 [(gB, cB, 5), (g2, encI i, 24)] i (putN i).length v7 v8 v9 wx)
  case first =>
    refine wp_region_some hR [(gB, cB, 5), (g2, encI i, 24)] (by (focus (repeat (with_reducible first | exact List.Sublist.slnil | exact List.nil_sublist _ | exact List.Sublist.refl _ | exact List.sublist_append_right _ _ | apply List.Sublist.cons_cons | apply List.Sublist.cons | apply sub_right)))) [1, 3, 4, 5, 6, 7] 12 (by kernel_rfl) (by kernel_rfl) (by kernel_rfl) rfl ?_
    clear hR; intro hR
    repeat (refine wpT_step rfl ?_; first
    | ((with_reducible apply q_pl); (with_reducible apply t_move); (apply EvC.now; exact rfl); (simp only [List.set_cons_succ, List.set_cons_zero]; exact rfl))
    | ((with_reducible apply q_pl); (with_reducible apply t_minK); (apply EvC.now; exact rfl); (apply EvC.now; exact rfl); exact HK.out; (simp only [List.set_cons_succ, List.set_cons_zero]; exact rfl))
    | ((with_reducible apply q_pl); (with_reducible apply t_strcut (k := K) Try.underlying9); (apply EvC.now; exact rfl); (apply EvC.now; exact rfl); exact rfl; exact hK1; (simp only [List.set_cons_succ, List.set_cons_zero]; exact rfl))
    | ((with_reducible apply wpT1_pure); exact rfl; intro K hK; go_simp; refine hK _ ?_; clear hK K; simp only [List.set_cons_succ, List.set_cons_zero]))
    refine wpT_nil ?_
    refine wpG_two hR (i := 0) (j := 14) (by kernel_rfl) ?_ ?_
    · clear hR; intro w hR
      refine opBuildS hR rfl rfl rfl bS0 ?_
      clear hR; intro g0 w hR
      refine ⟨hR.drop (by (focus (repeat (with_reducible first | exact List.Sublist.slnil | exact List.nil_sublist _ | exact List.Sublist.refl _ | exact List.sublist_append_right _ _ | apply List.Sublist.cons_cons | apply List.Sublist.cons | apply sub_right)))), ?_⟩
      simp only [List.set_cons_succ, List.set_cons_zero]
      refine wpG_two hR (i := 2) (j := 14) (by kernel_rfl) ?_ ?_
      · clear hR; intro w hR
        refine opAppR hR tBytes.k rfl rfl rfl rfl (by (focus (repeat (first | apply Del.head | apply Del.tail)))) hD0 (by (focus (repeat (first | apply List.Mem.head | apply List.Mem.tail | apply List.mem_append_right)))) (Part.ofIs hB) (lenB _) (onesB _) (by omega) ?_
        clear hR; intro gd curd capd w hR hD
        refine ⟨hR.drop (by (focus (repeat (with_reducible first | exact List.Sublist.slnil | exact List.nil_sublist _ | exact List.Sublist.refl _ | exact List.sublist_append_right _ _ | apply List.Sublist.cons_cons | apply List.Sublist.cons | apply sub_right)))), ?_⟩
        simp only [List.set_cons_succ, List.set_cons_zero]
        refine wpG_two hR (i := 8) (j := 14) (by kernel_rfl) ?_ ?_
        · clear hR; intro w hR
          refine opAppStr hR tStr rfl rfl rfl rfl (by (focus (repeat (first | apply Del.head | apply Del.tail)))) hD (by rw [hsz]; omega) ?_
          clear hR hD; intro gd curd capd w hR hD
          refine ⟨hR.drop (by (focus (repeat (with_reducible first | exact List.Sublist.slnil | exact List.nil_sublist _ | exact List.Sublist.refl _ | exact List.sublist_append_right _ _ | apply List.Sublist.cons_cons | apply List.Sublist.cons | apply sub_right)))), ?_⟩
          simp only [List.set_cons_succ, List.set_cons_zero]
          refine wpG_two hR (i := 9) (j := 14) (by kernel_rfl) ?_ ?_
          · clear hR; intro w hR
            refine opCallO hR Try.call8 rfl rfl rfl ?_
            refine (HG.out _ _ _ _ _ _ hR (by (focus (repeat (first | apply List.Mem.head | apply List.Mem.tail | apply List.mem_append_right)))) hD).mono ?_
            rintro en w' ⟨rfl, hb⟩
            replace hR := hR.grow hb
            clear hb
            refine ⟨_, rfl, hR.drop (by (focus (repeat (with_reducible first | exact List.Sublist.slnil | exact List.nil_sublist _ | exact List.Sublist.refl _ | exact List.sublist_append_right _ _ | apply List.Sublist.cons_cons | apply List.Sublist.cons | apply sub_right)))), ?_⟩
            simp only [List.set_cons_succ, List.set_cons_zero]
            refine wpG_of_wpT (by kernel_rfl) (fun _ _ _ h => h) 4 _ [10, 11, 12, 13] _ _ (by kernel_rfl) ?_
            repeat (refine wpT_step rfl ?_; first
                | ((with_reducible apply q_pl); (with_reducible apply t_move); (apply EvC.now; exact rfl); (simp only [List.set_cons_succ, List.set_cons_zero]; exact rfl))
                | ((with_reducible apply wpT1_pure); exact rfl; intro K hK; go_simp; refine hK _ ?_; clear hK K; simp only [List.set_cons_succ, List.set_cons_zero]))
            refine wpT_nil ?_
            refine wpG_one hR (i := 14) (by kernel_rfl) ?_
            clear hR; intro w hR
            refine opMake hR zInst rfl ?_
            clear hR; intro g7 w hR
            refine ⟨hR.drop (by (focus (repeat (with_reducible first | exact List.Sublist.slnil | exact List.nil_sublist _ | exact List.Sublist.refl _ | exact List.sublist_append_right _ _ | apply List.Sublist.cons_cons | apply List.Sublist.cons | apply sub_right)))), ?_⟩
            simp only [List.set_cons_succ, List.set_cons_zero]
            refine wpG_put hR tInst (i := 15) (by kernel_rfl) rfl rfl rfl (by (focus (repeat (first | apply List.Mem.head | apply List.Mem.tail | apply List.mem_append_right)))) (put_inst _ _) rfl (by simp [encI]) (one_inst _) (by (focus (repeat (first | apply Upd.head | apply Upd.tail)))) (by (focus (repeat (with_reducible first | exact List.Sublist.slnil | exact List.nil_sublist _ | exact List.Sublist.refl _ | exact List.sublist_append_right _ _ | apply List.Sublist.cons_cons | apply List.Sublist.cons | apply sub_right)))) ?_
            clear hR; intro w hR
            refine wpG_slot hR (i := 16) (by kernel_rfl) rfl rfl (by (simp only [List.set_cons_succ, List.set_cons_zero]; exact rfl)) ?_
            clear hR; intro w hR
            refine wpG_slot hR (i := 17) (by kernel_rfl) rfl rfl (by (simp only [List.set_cons_succ, List.set_cons_zero]; exact rfl)) ?_
            clear hR; intro w hR
            refine wpG_end hR (by kernel_rfl) ?_
            clear hR; intro w hR
            go_wp2
            go_meet
            exact ⟨g7, rfl, rfl, rfl, hR.drop (by (focus (repeat (with_reducible first | exact List.Sublist.slnil | exact List.nil_sublist _ | exact List.Sublist.refl _ | exact List.sublist_append_right _ _ | apply List.Sublist.cons_cons | apply List.Sublist.cons | apply sub_right))))⟩
          · clear hR; intro w hR
            refine opMake hR zInst rfl ?_
            clear hR; intro g7 w hR
            refine ⟨hR.drop (by (focus (repeat (with_reducible first | exact List.Sublist.slnil | exact List.nil_sublist _ | exact List.Sublist.refl _ | exact List.sublist_append_right _ _ | apply List.Sublist.cons_cons | apply List.Sublist.cons | apply sub_right)))), ?_⟩
            simp only [List.set_cons_succ, List.set_cons_zero]
            refine wpG_one hR (i := 9) (by kernel_rfl) ?_
            clear hR; intro w hR
            refine opCallO hR Try.call8 rfl rfl rfl ?_
            refine (HG.out _ _ _ _ _ _ hR (by (focus (repeat (first | apply List.Mem.head | apply List.Mem.tail | apply List.mem_append_right)))) hD).mono ?_
            rintro en w' ⟨rfl, hb⟩
            replace hR := hR.grow hb
            clear hb
            refine ⟨_, rfl, hR.drop (by (focus (repeat (with_reducible first | exact List.Sublist.slnil | exact List.nil_sublist _ | exact List.Sublist.refl _ | exact List.sublist_append_right _ _ | apply List.Sublist.cons_cons | apply List.Sublist.cons | apply sub_right)))), ?_⟩
            simp only [List.set_cons_succ, List.set_cons_zero]
            refine wpG_of_wpT (by kernel_rfl) (fun _ _ _ h => h) 3 _ [10, 11, 12, 13] _ _ (by kernel_rfl) ?_
            repeat (refine wpT_step rfl ?_; first
                | ((with_reducible apply q_pl); (with_reducible apply t_move); (apply EvC.now; exact rfl); (simp only [List.set_cons_succ, List.set_cons_zero]; exact rfl))
                | ((with_reducible apply wpT1_pure); exact rfl; intro K hK; go_simp; refine hK _ ?_; clear hK K; simp only [List.set_cons_succ, List.set_cons_zero]))
            refine wpT_nil ?_
            refine wpG_put hR tInst (i := 15) (by kernel_rfl) rfl rfl rfl (by (focus (repeat (first | apply List.Mem.head | apply List.Mem.tail | apply List.mem_append_right)))) (put_inst _ _) rfl (by simp [encI]) (one_inst _) (by (focus (repeat (first | apply Upd.head | apply Upd.tail)))) (by (focus (repeat (with_reducible first | exact List.Sublist.slnil | exact List.nil_sublist _ | exact List.Sublist.refl _ | exact List.sublist_append_right _ _ | apply List.Sublist.cons_cons | apply List.Sublist.cons | apply sub_right)))) ?_
            clear hR; intro w hR
            refine wpG_slot hR (i := 16) (by kernel_rfl) rfl rfl (by (simp only [List.set_cons_succ, List.set_cons_zero]; exact rfl)) ?_
            clear hR; intro w hR
            refine wpG_slot hR (i := 17) (by kernel_rfl) rfl rfl (by (simp only [List.set_cons_succ, List.set_cons_zero]; exact rfl)) ?_
            clear hR; intro w hR
            refine wpG_end hR (by kernel_rfl) ?_
            clear hR; intro w hR
            go_wp2
            go_meet
            exact ⟨g7, rfl, rfl, rfl, hR.drop (by (focus (repeat (with_reducible first | exact List.Sublist.slnil | exact List.nil_sublist _ | exact List.Sublist.refl _ | exact List.sublist_append_right _ _ | apply List.Sublist.cons_cons | apply List.Sublist.cons | apply sub_right))))⟩
        · clear hR; intro w hR
          refine opMake hR zInst rfl ?_
          clear hR; intro g7 w hR
          refine ⟨hR.drop (by (focus (repeat (with_reducible first | exact List.Sublist.slnil | exact List.nil_sublist _ | exact List.Sublist.refl _ | exact List.sublist_append_right _ _ | apply List.Sublist.cons_cons | apply List.Sublist.cons | apply sub_right)))), ?_⟩
          simp only [List.set_cons_succ, List.set_cons_zero]
          refine wpG_one hR (i := 8) (by kernel_rfl) ?_
          clear hR; intro w hR
          refine opAppStr hR tStr rfl rfl rfl rfl (by (focus (repeat (first | apply Del.head | apply Del.tail)))) hD (by rw [hsz]; omega) ?_
          clear hR hD; intro gd curd capd w hR hD
          refine ⟨hR.drop (by (focus (repeat (with_reducible first | exact List.Sublist.slnil | exact List.nil_sublist _ | exact List.Sublist.refl _ | exact List.sublist_append_right _ _ | apply List.Sublist.cons_cons | apply List.Sublist.cons | apply sub_right)))), ?_⟩
          simp only [List.set_cons_succ, List.set_cons_zero]
          refine wpG_one hR (i := 9) (by kernel_rfl) ?_
          clear hR; intro w hR
          refine opCallO hR Try.call8 rfl rfl rfl ?_
          refine (HG.out _ _ _ _ _ _ hR (by (focus (repeat (first | apply List.Mem.head | apply List.Mem.tail | apply List.mem_append_right)))) hD).mono ?_
          rintro en w' ⟨rfl, hb⟩
          replace hR := hR.grow hb
          clear hb
          refine ⟨_, rfl, hR.drop (by (focus (repeat (with_reducible first | exact List.Sublist.slnil | exact List.nil_sublist _ | exact List.Sublist.refl _ | exact List.sublist_append_right _ _ | apply List.Sublist.cons_cons | apply List.Sublist.cons | apply sub_right)))), ?_⟩
          simp only [List.set_cons_succ, List.set_cons_zero]
          refine wpG_of_wpT (by kernel_rfl) (fun _ _ _ h => h) 3 _ [10, 11, 12, 13] _ _ (by kernel_rfl) ?_
          repeat (refine wpT_step rfl ?_; first
              | ((with_reducible apply q_pl); (with_reducible apply t_move); (apply EvC.now; exact rfl); (simp only [List.set_cons_succ, List.set_cons_zero]; exact rfl))
              | ((with_reducible apply wpT1_pure); exact rfl; intro K hK; go_simp; refine hK _ ?_; clear hK K; simp only [List.set_cons_succ, List.set_cons_zero]))
          refine wpT_nil ?_
          refine wpG_put hR tInst (i := 15) (by kernel_rfl) rfl rfl rfl (by (focus (repeat (first | apply List.Mem.head | apply List.Mem.tail | apply List.mem_append_right)))) (put_inst _ _) rfl (by simp [encI]) (one_inst _) (by (focus (repeat (first | apply Upd.head | apply Upd.tail)))) (by (focus (repeat (with_reducible first | exact List.Sublist.slnil | exact List.nil_sublist _ | exact List.Sublist.refl _ | exact List.sublist_append_right _ _ | apply List.Sublist.cons_cons | apply List.Sublist.cons | apply sub_right)))) ?_
          clear hR; intro w hR
          refine wpG_slot hR (i := 16) (by kernel_rfl) rfl rfl (by (simp only [List.set_cons_succ, List.set_cons_zero]; exact rfl)) ?_
          clear hR; intro w hR
          refine wpG_slot hR (i := 17) (by kernel_rfl) rfl rfl (by (simp only [List.set_cons_succ, List.set_cons_zero]; exact rfl)) ?_
          clear hR; intro w hR
          refine wpG_end hR (by kernel_rfl) ?_
          clear hR; intro w hR
          go_wp2
          go_meet
          exact ⟨g7, rfl, rfl, rfl, hR.drop (by (focus (repeat (with_reducible first | exact List.Sublist.slnil | exact List.nil_sublist _ | exact List.Sublist.refl _ | exact List.sublist_append_right _ _ | apply List.Sublist.cons_cons | apply List.Sublist.cons | apply sub_right))))⟩
      · clear hR; intro w hR
        refine opMake hR zInst rfl ?_
        clear hR; intro g7 w hR
        refine ⟨hR.drop (by (focus (repeat (with_reducible first | exact List.Sublist.slnil | exact List.nil_sublist _ | exact List.Sublist.refl _ | exact List.sublist_append_right _ _ | apply List.Sublist.cons_cons | apply List.Sublist.cons | apply sub_right)))), ?_⟩
        simp only [List.set_cons_succ, List.set_cons_zero]
        refine wpG_one hR (i := 2) (by kernel_rfl) ?_
        clear hR; intro w hR
        refine opAppR hR tBytes.k rfl rfl rfl rfl (by (focus (repeat (first | apply Del.head | apply Del.tail)))) hD0 (by (focus (repeat (first | apply List.Mem.head | apply List.Mem.tail | apply List.mem_append_right)))) (Part.ofIs hB) (lenB _) (onesB _) (by omega) ?_
        clear hR; intro gd curd capd w hR hD
        refine ⟨hR.drop (by (focus (repeat (with_reducible first | exact List.Sublist.slnil | exact List.nil_sublist _ | exact List.Sublist.refl _ | exact List.sublist_append_right _ _ | apply List.Sublist.cons_cons | apply List.Sublist.cons | apply sub_right)))), ?_⟩
        simp only [List.set_cons_succ, List.set_cons_zero]
        refine wpG_one hR (i := 8) (by kernel_rfl) ?_
        clear hR; intro w hR
        refine opAppStr hR tStr rfl rfl rfl rfl (by (focus (repeat (first | apply Del.head | apply Del.tail)))) hD (by rw [hsz]; omega) ?_
        clear hR hD; intro gd curd capd w hR hD
        refine ⟨hR.drop (by (focus (repeat (with_reducible first | exact List.Sublist.slnil | exact List.nil_sublist _ | exact List.Sublist.refl _ | exact List.sublist_append_right _ _ | apply List.Sublist.cons_cons | apply List.Sublist.cons | apply sub_right)))), ?_⟩
        simp only [List.set_cons_succ, List.set_cons_zero]
        refine wpG_one hR (i := 9) (by kernel_rfl) ?_
        clear hR; intro w hR
        refine opCallO hR Try.call8 rfl rfl rfl ?_
        refine (HG.out _ _ _ _ _ _ hR (by (focus (repeat (first | apply List.Mem.head | apply List.Mem.tail | apply List.mem_append_right)))) hD).mono ?_
        rintro en w' ⟨rfl, hb⟩
        replace hR := hR.grow hb
        clear hb
        refine ⟨_, rfl, hR.drop (by (focus (repeat (with_reducible first | exact List.Sublist.slnil | exact List.nil_sublist _ | exact List.Sublist.refl _ | exact List.sublist_append_right _ _ | apply List.Sublist.cons_cons | apply List.Sublist.cons | apply sub_right)))), ?_⟩
        simp only [List.set_cons_succ, List.set_cons_zero]
        refine wpG_of_wpT (by kernel_rfl) (fun _ _ _ h => h) 3 _ [10, 11, 12, 13] _ _ (by kernel_rfl) ?_
        repeat (refine wpT_step rfl ?_; first
            | ((with_reducible apply q_pl); (with_reducible apply t_move); (apply EvC.now; exact rfl); (simp only [List.set_cons_succ, List.set_cons_zero]; exact rfl))
            | ((with_reducible apply wpT1_pure); exact rfl; intro K hK; go_simp; refine hK _ ?_; clear hK K; simp only [List.set_cons_succ, List.set_cons_zero]))
        refine wpT_nil ?_
        refine wpG_put hR tInst (i := 15) (by kernel_rfl) rfl rfl rfl (by (focus (repeat (first | apply List.Mem.head | apply List.Mem.tail | apply List.mem_append_right)))) (put_inst _ _) rfl (by simp [encI]) (one_inst _) (by (focus (repeat (first | apply Upd.head | apply Upd.tail)))) (by (focus (repeat (with_reducible first | exact List.Sublist.slnil | exact List.nil_sublist _ | exact List.Sublist.refl _ | exact List.sublist_append_right _ _ | apply List.Sublist.cons_cons | apply List.Sublist.cons | apply sub_right)))) ?_
        clear hR; intro w hR
        refine wpG_slot hR (i := 16) (by kernel_rfl) rfl rfl (by (simp only [List.set_cons_succ, List.set_cons_zero]; exact rfl)) ?_
        clear hR; intro w hR
        refine wpG_slot hR (i := 17) (by kernel_rfl) rfl rfl (by (simp only [List.set_cons_succ, List.set_cons_zero]; exact rfl)) ?_
        clear hR; intro w hR
        refine wpG_end hR (by kernel_rfl) ?_
        clear hR; intro w hR
        go_wp2
        go_meet
        exact ⟨g7, rfl, rfl, rfl, hR.drop (by (focus (repeat (with_reducible first | exact List.Sublist.slnil | exact List.nil_sublist _ | exact List.Sublist.refl _ | exact List.sublist_append_right _ _ | apply List.Sublist.cons_cons | apply List.Sublist.cons | apply sub_right))))⟩
    · clear hR; intro w hR
      refine opMake hR zInst rfl ?_
      clear hR; intro g7 w hR
      refine ⟨hR.drop (by (focus (repeat (with_reducible first | exact List.Sublist.slnil | exact List.nil_sublist _ | exact List.Sublist.refl _ | exact List.sublist_append_right _ _ | apply List.Sublist.cons_cons | apply List.Sublist.cons | apply sub_right)))), ?_⟩
      simp only [List.set_cons_succ, List.set_cons_zero]
      refine wpG_one hR (i := 0) (by kernel_rfl) ?_
      clear hR; intro w hR
      refine opBuildS hR rfl rfl rfl bS0 ?_
      clear hR; intro g0 w hR
      refine ⟨hR.drop (by (focus (repeat (with_reducible first | exact List.Sublist.slnil | exact List.nil_sublist _ | exact List.Sublist.refl _ | exact List.sublist_append_right _ _ | apply List.Sublist.cons_cons | apply List.Sublist.cons | apply sub_right)))), ?_⟩
      simp only [List.set_cons_succ, List.set_cons_zero]
      refine wpG_one hR (i := 2) (by kernel_rfl) ?_
      clear hR; intro w hR
      refine opAppR hR tBytes.k rfl rfl rfl rfl (by (focus (repeat (first | apply Del.head | apply Del.tail)))) hD0 (by (focus (repeat (first | apply List.Mem.head | apply List.Mem.tail | apply List.mem_append_right)))) (Part.ofIs hB) (lenB _) (onesB _) (by omega) ?_
      clear hR; intro gd curd capd w hR hD
      refine ⟨hR.drop (by (focus (repeat (with_reducible first | exact List.Sublist.slnil | exact List.nil_sublist _ | exact List.Sublist.refl _ | exact List.sublist_append_right _ _ | apply List.Sublist.cons_cons | apply List.Sublist.cons | apply sub_right)))), ?_⟩
      simp only [List.set_cons_succ, List.set_cons_zero]
      refine wpG_one hR (i := 8) (by kernel_rfl) ?_
      clear hR; intro w hR
      refine opAppStr hR tStr rfl rfl rfl rfl (by (focus (repeat (first | apply Del.head | apply Del.tail)))) hD (by rw [hsz]; omega) ?_
      clear hR hD; intro gd curd capd w hR hD
      refine ⟨hR.drop (by (focus (repeat (with_reducible first | exact List.Sublist.slnil | exact List.nil_sublist _ | exact List.Sublist.refl _ | exact List.sublist_append_right _ _ | apply List.Sublist.cons_cons | apply List.Sublist.cons | apply sub_right)))), ?_⟩
      simp only [List.set_cons_succ, List.set_cons_zero]
      refine wpG_one hR (i := 9) (by kernel_rfl) ?_
      clear hR; intro w hR
      refine opCallO hR Try.call8 rfl rfl rfl ?_
      refine (HG.out _ _ _ _ _ _ hR (by (focus (repeat (first | apply List.Mem.head | apply List.Mem.tail | apply List.mem_append_right)))) hD).mono ?_
      rintro en w' ⟨rfl, hb⟩
      replace hR := hR.grow hb
      clear hb
      refine ⟨_, rfl, hR.drop (by (focus (repeat (with_reducible first | exact List.Sublist.slnil | exact List.nil_sublist _ | exact List.Sublist.refl _ | exact List.sublist_append_right _ _ | apply List.Sublist.cons_cons | apply List.Sublist.cons | apply sub_right)))), ?_⟩
      simp only [List.set_cons_succ, List.set_cons_zero]
      refine wpG_of_wpT (by kernel_rfl) (fun _ _ _ h => h) 3 _ [10, 11, 12, 13] _ _ (by kernel_rfl) ?_
      repeat (refine wpT_step rfl ?_; first
          | ((with_reducible apply q_pl); (with_reducible apply t_move); (apply EvC.now; exact rfl); (simp only [List.set_cons_succ, List.set_cons_zero]; exact rfl))
          | ((with_reducible apply wpT1_pure); exact rfl; intro K hK; go_simp; refine hK _ ?_; clear hK K; simp only [List.set_cons_succ, List.set_cons_zero]))
      refine wpT_nil ?_
      refine wpG_put hR tInst (i := 15) (by kernel_rfl) rfl rfl rfl (by (focus (repeat (first | apply List.Mem.head | apply List.Mem.tail | apply List.mem_append_right)))) (put_inst _ _) rfl (by simp [encI]) (one_inst _) (by (focus (repeat (first | apply Upd.head | apply Upd.tail)))) (by (focus (repeat (with_reducible first | exact List.Sublist.slnil | exact List.nil_sublist _ | exact List.Sublist.refl _ | exact List.sublist_append_right _ _ | apply List.Sublist.cons_cons | apply List.Sublist.cons | apply sub_right)))) ?_
      clear hR; intro w hR
      refine wpG_slot hR (i := 16) (by kernel_rfl) rfl rfl (by (simp only [List.set_cons_succ, List.set_cons_zero]; exact rfl)) ?_
      clear hR; intro w hR
      refine wpG_slot hR (i := 17) (by kernel_rfl) rfl rfl (by (simp only [List.set_cons_succ, List.set_cons_zero]; exact rfl)) ?_
      clear hR; intro w hR
      refine wpG_end hR (by kernel_rfl) ?_
      clear hR; intro w hR
      go_wp2
      go_meet
      exact ⟨g7, rfl, rfl, rfl, hR.drop (by (focus (repeat (with_reducible first | exact List.Sublist.slnil | exact List.nil_sublist _ | exact List.Sublist.refl _ | exact List.sublist_append_right _ _ | apply List.Sublist.cons_cons | apply List.Sublist.cons | apply sub_right))))⟩
  case rest =>
  clear hR HG HK hD0 hK1 hK9 hsz w1
  obtain ⟨g7, rfl, rfl, rfl, hR⟩ := hcut
  have hB2 := hB.less (k := (putN i).length - 1) (by omega)
  rw [show (cellsB (putN i)).take ((putN i).length - 1) = cellsB ((putN i).take ((putN i).length - 1)) from (List.map_take).symm] at hB2
  have hb2 : bytesOk ((putN i).take ((putN i).length - 1)) := fun n hn => hpk n (List.mem_of_mem_take hn)
  have hl2 : ((putN i).take ((putN i).length - 1)).length = (putN i).length - 1 := by rw [List.length_take]; omega
  have hg : ∀ (w : World) (L : List RowT), Own w0 w L → (gB, cB, 5) ∈ L → Calls Try.prog 8 #[.slice (some ⟨gB, 0, none⟩) ((putN i).length - 1) capB] w fun en w' => en = .returned (.tuple #[.agg (encI zeroI), .int .i64 0, .int .i64 2]) ∧ Below w.heap.size w w' := by
    intro w L hO hm
    have := get_any ⟨SrcW.ofRw hO hm hB2.rw hb2, by rw [hl2]; omega⟩
    rw [inst_short i fi mc] at this
    exact this
  have HG := Lib.hid hg
  have hle := hB.le
  generalize hn : (putN i).length = n at *
  clear hg hB hB2 hb2 hl2 hn
  go_upto_region 5 with (first
    | ((with_reducible apply q_ls hR); exact rfl; (with_reducible apply t_first tBytes (k := n - 1)); (apply EvC.now; exact rfl); (apply EvC.now; exact rfl); omega; omega; (simp only [List.set_cons_succ, List.set_cons_zero]; exact rfl); clear hR; intro w hR)
    | (go_at_call 8; refine (HG.out _ _ hR (by (focus (repeat (first | apply List.Mem.head | apply List.Mem.tail | apply List.mem_append_right))))).mono ?_; rintro e w' ⟨rfl, hb⟩; replace hR := hR.grow hb; clear hb)
    | ((with_reducible apply wpList_box hR); exact rfl; exact rfl; clear hR; intro g w hR; simp only [List.set_cons_succ, List.set_cons_zero])
    | ((with_reducible apply wpList_make hR zInst); exact rfl; clear hR; intro g2 w hR; simp only [List.set_cons_succ, List.set_cons_zero])
    | ((with_reducible apply q_ls hR); exact rfl; ((with_reducible first | apply t_addr (fRd _ (by decide)) | apply t_addr (fInst _ (by decide)) | apply t_addr (fRow _ (by decide)) | apply t_one tInt | apply t_one tWord | apply t_one tByte | apply t_one tBool | apply t_one tSlB | apply t_part tInst | apply t_part tRow) <;> (first | (apply EvC.gv; exact rfl; (with_reducible first | exact Imp.refl _ | (apply Imp.left; exact Imp.refl _) | (apply Imp.right; exact Imp.refl _) | (apply Imp.left; apply Imp.left; exact Imp.refl _))) | (apply EvC.now; exact rfl) | exact rfl | (with_reducible exact EvAll.nil) | (focus (repeat (first | apply EvAll.cons | exact EvAll.nil | (apply EvC.gv; exact rfl; (with_reducible first | exact Imp.refl _ | (apply Imp.left; exact Imp.refl _) | (apply Imp.right; exact Imp.refl _) | (apply Imp.left; apply Imp.left; exact Imp.refl _))) | (apply EvC.now; exact rfl))); done) | (first | apply ext_inst | apply ext_row) | (focus (repeat (first | apply List.Mem.head | apply List.Mem.tail | apply List.mem_append_right))))); (simp only [List.set_cons_succ, List.set_cons_zero]; exact rfl); clear hR; intro w hR)
    | ((with_reducible apply wpList_put hR tInst); exact rfl; exact rfl; exact rfl; (focus (repeat (first | apply List.Mem.head | apply List.Mem.tail | apply List.mem_append_right))); apply put_inst; exact rfl; simp [encI]; apply one_inst; (focus (repeat (first | apply Upd.head | apply Upd.tail))); clear hR; intro w hR))
  refine wp_region_tame hR [0, 1, 2, 3, 4, 5, 6, 7, 8, 9, 10, 11, 12, 13, 14, 15, 16, 17, 18, 19, 20, 21, 22, 23, 24] rfl ?_
  repeat (refine wpT_step rfl ?_; first
    | ((with_reducible apply q_kn); exact rfl; (with_reducible apply t_call Try.call9); (first | (apply EvC.gv; exact rfl; (with_reducible first | exact Imp.refl _ | (apply Imp.left; exact Imp.refl _) | (apply Imp.right; exact Imp.refl _) | (apply Imp.left; apply Imp.left; exact Imp.refl _))) | (apply EvC.now; exact rfl) | exact rfl | (with_reducible exact EvAll.nil) | (focus (repeat (first | apply EvAll.cons | exact EvAll.nil | (apply EvC.gv; exact rfl; (with_reducible first | exact Imp.refl _ | (apply Imp.left; exact Imp.refl _) | (apply Imp.right; exact Imp.refl _) | (apply Imp.left; apply Imp.left; exact Imp.refl _))) | (apply EvC.now; exact rfl))); done) | (first | apply ext_inst | apply ext_row) | (focus (repeat (first | apply List.Mem.head | apply List.Mem.tail | apply List.mem_append_right)))); (intro hcc w hC; exact tame_below (awake7_any _) hC); (simp only [List.set_cons_succ, List.set_cons_zero]; exact rfl))
    | ((with_reducible apply q_kn); exact rfl; (first | ((with_reducible first | apply t_move | apply t_assign | apply t_addr (fRd _ (by decide)) | apply t_addr (fInst _ (by decide)) | apply t_addr (fRow _ (by decide)) | apply t_one tInt | apply t_one tWord | apply t_one tByte | apply t_one tBool | apply t_one tSlB | apply t_part tInst | apply t_part tRow) <;> (first | (apply EvC.gv; exact rfl; (with_reducible first | exact Imp.refl _ | (apply Imp.left; exact Imp.refl _) | (apply Imp.right; exact Imp.refl _) | (apply Imp.left; apply Imp.left; exact Imp.refl _))) | (apply EvC.now; exact rfl) | exact rfl | (with_reducible exact EvAll.nil) | (focus (repeat (first | apply EvAll.cons | exact EvAll.nil | (apply EvC.gv; exact rfl; (with_reducible first | exact Imp.refl _ | (apply Imp.left; exact Imp.refl _) | (apply Imp.right; exact Imp.refl _) | (apply Imp.left; apply Imp.left; exact Imp.refl _))) | (apply EvC.now; exact rfl))); done) | (first | apply ext_inst | apply ext_row) | (focus (repeat (first | apply List.Mem.head | apply List.Mem.tail | apply List.mem_append_right))))) | ((with_reducible apply t_pick); (apply EvC.now; exact rfl); (apply EvC.now; exact rfl))); (simp only [List.set_cons_succ, List.set_cons_zero]; exact rfl))
    | ((with_reducible apply q_kn); exact rfl; (with_reducible apply t_len Try.underlying26); (apply EvC.now; exact rfl); (simp only [List.set_cons_succ, List.set_cons_zero]; exact rfl))
    | ((with_reducible apply q_kn); exact rfl; (with_reducible apply t_eql Try.eqGuardType24); (apply EvC.now; exact rfl); (apply EvC.now; exact rfl); exact eq_self _; (simp only [List.set_cons_succ, List.set_cons_zero]; exact rfl))
    | ((with_reducible apply wpT1_pure); exact rfl; intro K hK; go_simp; refine hK _ ?_; clear hK K; simp only [List.set_cons_succ, List.set_cons_zero]))
  refine wpT_nil ?_
  clear hR; intro w hR
  go_wp2
  go_ret
  exact ⟨rfl, hR.below⟩

set_option maxRecDepth 100000 in
theorem lifted (os : Os) (started : os.Started) (H : Type) (enc : TypeId × Value → H) :
    ReturnsInHanded {} Try.checked os 3 .any (Rows.scanBackSpec.pre6 enc Try.prog Try.f3 Rows.scanBackRow.domain false) (Rows.scanBackSpec.post enc Try.prog Try.f3 false true false false) := by
  refine returnsInHanded_of_change (C := Try.checked) own started (by kernel_rfl) Try.func3
    (ChangeSpec.witness6 (enc := enc) (C := Try.checked) false ⟨#[], #[.agg (encI zeroI), .string ByteArray.empty], []⟩ 8 (by kernel_rfl) (by kernel_rfl) (by kernel_rfl) (by kernel_rfl)) ?_
  intro W base args ds gs before hval0 hW hcnd _
  have hval : ∀ (j : Nat) t v, Try.f3.params[j]? = some t → args[j]? = some v → Value.okWide Try.prog W .any base t v := hval0
  have hW' := hW
  obtain ⟨p, q, hA0, hV, rfl, hfz, hnd⟩ := hW
  have hA : DataW.TrodAll enc Try.prog W 0 (fun _ => true) true Try.f3.params.toList args.toList ds p := hA0
  rw [Try.params3] at hA hval
  obtain ⟨v0, vs0, d0, ds0, p0, q0, hargs, rfl, rfl, h0, r0⟩ := trodAll_cons hA
  obtain ⟨v1, vs1, d1, ds1, p1, q1, rfl, rfl, rfl, h1, r1⟩ := trodAll_cons r0
  obtain ⟨rfl, rfl, rfl⟩ := trodAll_nil r1
  obtain rfl : args = #[v0, v1] := by cases args; simp_all
  obtain ⟨rfl, rfl⟩ := trodVars_none hV
  have k0 := h0
  have lt0 : ∀ x ∈ p0, x.block < W.heap.size := by obtain ⟨m, hm⟩ := k0; exact DataW.trod_lt m _ _ _ hm
  obtain ⟨a1, rfl, rfl, rfl, w1⟩ := open_string Try.underlying9 (hval 1 9 v1 rfl rfl) h1
  clear hA0 hval0
  refine (walk v0 (hval 0 24 v0 rfl rfl) a1 w1 W).mono fun e W' ⟨he, bel⟩ => ?_
  subst he
  exact ⟨_, rfl, _, _, _, [], _, [], hW', trodAll_mk1 (shut_bool Try.underlying4 _), (trodAll_cons_mk (Below.trod laidOut (by kernel_rfl) (of_decide_eq_true (by kernel_rfl)) k0 bel lt0) (trodAll_cons_mk (shut_string Try.underlying9 w1) trodAll_mk0)), rfl, bel.frame _, fun h => by cases h⟩

theorem over : Rows.scanBackRow.holds Try.pinned (OpenSpec.ofChange Rows.scanBackSpec) :=
  OpenClaim.holds_of_wide 3 Try.f3 rfl rfl rfl rfl rfl rfl rfl ⟨rfl, rfl, rfl, rfl, rfl⟩ rfl rfl rfl rfl rfl (by kernel_rfl) Try.func3 (by kernel_rfl)
    (of_decide_eq_true (by kernel_rfl)) (by unfold Func.isWrapper; first | (rw [if_pos (by decide +kernel)]; kernel_rfl) | (rw [if_neg (by decide +kernel)]; exact ⟨rfl, rfl⟩))
    (fun os started H enc _ => lifted os started H enc)

theorem proved : Rows.ScanBackSaid := over
#print axioms proved
end Go.Proofs.Ytnhlogameldkfaa.scanBack
