









/- The contract of hansomlaw31's same, of two statements that are alike. No statement of the seat is proved here. -/
import Derived.Test.YtjecckmcjcikdaaDoorLaw31
namespace Go.Proofs.YtjecckmcjcikdaaDoor
open Go.ChangeShapes Go.WideShapes Go.ChangeAt Go.RowKit
set_option linter.unusedVariables false
set_option linter.unusedSimpArgs false
set_option maxRecDepth 100000

theorem gTok : Tryd.prog.eqGuardType Tryd.prog.depth 30 = false := by kernel_rfl
theorem eqTok_self (t : TokZ) : eqB Tryd.prog 9 30 (.agg (encTok t)) (.agg (encTok t)) = some true := by
  have h : eqB Tryd.prog 9 30 (.agg (encTok t)) (.agg (encTok t)) = some ((t.k == t.k) && (((strOfNums t.s).toList == (strOfNums t.s).toList) && (((t.n : Int) == (t.n : Int)) && (((t.d : Int) == (t.d : Int)) && true)))) := by kernel_rfl
  rw [h]; simp
theorem t_neqSelf {P : Program} {C : World → Prop} {tp : TypeId} {pos : String} {af : Array Edge} {gd : Option (Nat × Bool)} {ls : List Value} {ds : List Deferred} {c : Bool} {dd : Option Tmp} {ty ty' : TypeId} {x y : Operand} {a : Bool} (hu : P.underlying ty = some .bool) (hx : EvC ls c x (.bool a)) (hy : EvC ls c y (.bool a)) : TIf P C c ⟨dd, .binOp .neq ty x y ty', tp, pos, af, gd⟩ ⟨ls.toArray, ds⟩ (.bool false) := by
  have h := t_neqB (P := P) (C := C) (tp := tp) (pos := pos) (af := af) (gd := gd) (ds := ds) (dd := dd) (ty := ty) (ty' := ty') hu hx hy
  rwa [bne_self_eq_false] at h
set_option maxHeartbeats 4000000 in
theorem same31_any {w0 : World} {vp va vp' va' : Value} {z : StmZ} (h1 : StmAt w0 vp va z) (h2 : StmAt w0 vp' va' z) (hlp : z.pre.length ≤ 1000000) (hla : z.args.length ≤ 1000000) (hlt : ∀ p ∈ z.args, p.length ≤ 1000000) :
    Calls Tryd.prog 8 #[.agg (encSt z vp va), .agg (encSt z vp' va')] w0 fun e w' => e = .returned (.bool true) ∧ Below w0.heap.size w0 w' := by
  have hR := Own.start w0
  have hp1 := h1.pre.rd
  have hp2 := h2.pre.rd
  obtain ⟨vs1, ha1⟩ := h1.args.rd
  obtain ⟨vs2, ha2⟩ := h2.args.rd
  have HLP := Lib.hid hlp
  have HLA := Lib.hid hla
  clear hlp hla
  go_enter Tryd.func8, Tryd.ntmps8
  go_wp2_with (first
    | ((with_reducible apply wpList_box (c := encSt z vp va) hR); exact rfl; exact rfl; clear hR; intro ga w hR; simp only [List.set_cons_succ, List.set_cons_zero])
    | ((with_reducible apply wpList_box (c := encSt z vp' va') hR); exact rfl; exact rfl; clear hR; intro gb w hR; simp only [List.set_cons_succ, List.set_cons_zero])
    | ((with_reducible apply q_ls hR); exact rfl; (with_reducible apply t_strsameN); (apply EvC.now; exact rfl); (apply EvC.now; exact rfl); (simp only [List.set_cons_succ, List.set_cons_zero]; exact rfl); clear hR; intro w hR)
    | ((with_reducible apply q_ls hR); exact rfl; (with_reducible apply t_neqSelf Tryd.underlying4); (apply EvC.now; exact rfl); (apply EvC.now; exact rfl); (simp only [List.set_cons_succ, List.set_cons_zero]; exact rfl); clear hR; intro w hR)
    | ((with_reducible apply q_ls hR); exact rfl; (with_reducible apply t_lenRd Tryd.underlying23); (apply EvC.now; exact rfl); (with_reducible first | exact hp1 | exact hp2); (simp only [List.set_cons_succ, List.set_cons_zero]; exact rfl); clear hR; intro w hR)
    | ((with_reducible apply q_ls hR); exact rfl; (with_reducible apply t_lenRd Tryd.underlying24); (apply EvC.now; exact rfl); (with_reducible first | exact ha1 | exact ha2); (simp only [List.set_cons_succ, List.set_cons_zero]; exact rfl); clear hR; intro w hR)
    | ((with_reducible apply q_ls hR); exact rfl; (with_reducible apply t_cmp (op := .neq)); (apply EvC.now; exact rfl); (apply EvC.now; exact rfl); exact cmp_nselfS _; (simp only [List.set_cons_succ, List.set_cons_zero]; exact rfl); clear hR; intro w hR)
    | ((with_reducible apply q_ls hR); exact rfl; ((with_reducible first | apply t_addr (fTok _ (by decide)) | apply t_addr (fStm _ (by decide)) | apply t_one tIntL | apply t_one tStrO | apply t_one tBoolL | apply t_one tStrsL | apply t_one tPartsL | apply t_part tTok | apply t_part tStm) <;> (first | (apply EvC.gv; exact rfl; (with_reducible first | exact Imp.refl _ | (apply Imp.left; exact Imp.refl _) | (apply Imp.right; exact Imp.refl _) | (apply Imp.left; apply Imp.left; exact Imp.refl _))) | (apply EvC.now; exact rfl) | exact rfl | (with_reducible exact EvAll.nil) | (focus (repeat (first | apply EvAll.cons | exact EvAll.nil | (apply EvC.gv; exact rfl; (with_reducible first | exact Imp.refl _ | (apply Imp.left; exact Imp.refl _) | (apply Imp.right; exact Imp.refl _) | (apply Imp.left; apply Imp.left; exact Imp.refl _))) | (apply EvC.now; exact rfl))); done) | (first | exact ext_tok _ | exact ext_stm _ _ _) | (focus (repeat (first | apply List.Mem.head | apply List.Mem.tail | apply List.mem_append_right))))); (simp only [List.set_cons_succ, List.set_cons_zero]; exact rfl); clear hR; intro w hR))
  go_loopw [5] (fun i wr => ∃ k : Nat, i = .int .i64 k ∧ k ≤ z.pre.length ∧ Own w0 wr [(gb, encSt z vp' va', 26), (ga, encSt z vp va, 26)]) (fun i _ => z.pre.length - (intOf i).toNat)
  case atStart => exact ⟨0, rfl, Nat.zero_le _, hR⟩
  case round =>
    clear hR
    obtain ⟨k, rfl, hk, hR⟩ := hrel
    have hlp := HLP.out
    by_cases hlt1 : k < z.pre.length
    · obtain ⟨t, ht⟩ : ∃ t, z.pre[k]? = some t := ⟨_, List.getElem?_eq_getElem hlt1⟩
      obtain ⟨a1, c1, rfl, hc1⟩ := h1.pre.el ht
      obtain ⟨a2, c2, rfl, hc2⟩ := h2.pre.el ht
      have HL := Lib.hid (show cmpB .lss (k : Int) (z.pre.length : Int) = some true from congrArg some (decide_eq_true (by omega)))
      have HK := Lib.hid (show IntKind.i64.wrap ((k : Int) + 1) = ((k + 1 : Nat) : Int) by rw [IntWalk.i64_in _ (by omega)]; omega)
      have HIX := Lib.hid (show (0 : Int) ≤ k ∧ (k : Int) < z.pre.length by omega)
      have HC1 := Lib.hid (show w0.cell? (a1.add ((k : Int).toNat * 1)) = some (.string (strOfNums t)) by rw [Int.toNat_natCast, Nat.mul_one]; exact hc1)
      have HC2 := Lib.hid (show w0.cell? (a2.add ((k : Int).toNat * 1)) = some (.string (strOfNums t)) by rw [Int.toNat_natCast, Nat.mul_one]; exact hc2)
      clear hc1 hc2 ht
      go_upto_region 6 with (first
    | ((with_reducible apply q_ls hR); exact rfl; (with_reducible apply t_lenRd Tryd.underlying23); (apply EvC.now; exact rfl); (with_reducible first | exact hp1 | exact hp2); (simp only [List.set_cons_succ, List.set_cons_zero]; exact rfl); clear hR; intro w hR)
    | ((with_reducible apply q_ls hR); exact rfl; (with_reducible apply t_lenRd Tryd.underlying24); (apply EvC.now; exact rfl); (with_reducible first | exact ha1 | exact ha2); (simp only [List.set_cons_succ, List.set_cons_zero]; exact rfl); clear hR; intro w hR)
    | ((with_reducible apply q_ls hR); exact rfl; (with_reducible apply t_cmp (op := .lss)); (apply EvC.now; exact rfl); (apply EvC.now; exact rfl); exact HL.out; (simp only [List.set_cons_succ, List.set_cons_zero]; exact rfl); clear hR; intro w hR)
    | ((with_reducible apply q_ls hR); exact rfl; (with_reducible apply t_numE (op := .add)); (apply EvC.now; exact rfl); (apply EvC.now; exact rfl); exact rfl; exact HK.out; (simp only [List.set_cons_succ, List.set_cons_zero]; exact rfl); clear hR; intro w hR)
    | ((with_reducible apply wpList_box hR); exact rfl; exact rfl; clear hR; intro g w hR; simp only [List.set_cons_succ, List.set_cons_zero])
    | ((with_reducible apply q_ls hR); exact rfl; ((with_reducible first | apply t_addr (fTok _ (by decide)) | apply t_addr (fStm _ (by decide)) | apply t_one tIntL | apply t_one tStrO | apply t_one tBoolL | apply t_one tStrsL | apply t_one tPartsL | apply t_part tTok | apply t_part tStm) <;> (first | (apply EvC.gv; exact rfl; (with_reducible first | exact Imp.refl _ | (apply Imp.left; exact Imp.refl _) | (apply Imp.right; exact Imp.refl _) | (apply Imp.left; apply Imp.left; exact Imp.refl _))) | (apply EvC.now; exact rfl) | exact rfl | (with_reducible exact EvAll.nil) | (focus (repeat (first | apply EvAll.cons | exact EvAll.nil | (apply EvC.gv; exact rfl; (with_reducible first | exact Imp.refl _ | (apply Imp.left; exact Imp.refl _) | (apply Imp.right; exact Imp.refl _) | (apply Imp.left; apply Imp.left; exact Imp.refl _))) | (apply EvC.now; exact rfl))); done) | (first | exact ext_tok _ | exact ext_stm _ _ _) | (focus (repeat (first | apply List.Mem.head | apply List.Mem.tail | apply List.mem_append_right))))); (simp only [List.set_cons_succ, List.set_cons_zero]; exact rfl); clear hR; intro w hR))
      refine wp_region_rows hR [0, 1, 2, 3, 4, 5, 6, 7, 8, 9, 10] 0 (by kernel_rfl) (by kernel_rfl) (by kernel_rfl) rfl ?_
      clear hR; intro hR
      repeat (refine wpT_step rfl ?_; first
    | ((with_reducible apply q_pl); (with_reducible apply t_six Tryd.underlying23 iStrO); (apply EvC.now; exact rfl); (apply EvC.now; exact rfl); exact HIX.out; (simp only [List.set_cons_succ, List.set_cons_zero]; exact rfl))
    | ((with_reducible apply q_pl); (with_reducible apply t_oldOne tStrO); (apply EvC.now; exact rfl); (with_reducible first | exact HC1.out | exact HC2.out); exact rfl; (simp only [List.set_cons_succ, List.set_cons_zero]; exact rfl))
    | ((with_reducible apply q_pl); (with_reducible apply t_strsameN); (apply EvC.now; exact rfl); (apply EvC.now; exact rfl); (simp only [List.set_cons_succ, List.set_cons_zero]; exact rfl))
    | ((first | (with_reducible apply q_pl) | ((with_reducible apply q_gd); (first | (apply GdBy.gt; exact rfl; exact rfl) | (apply GdBy.gf; exact rfl; exact rfl) | (apply GdBy.t; exact rfl; exact rfl) | (apply GdBy.f; exact rfl; exact rfl)))); (first | ((with_reducible first | apply t_move | apply t_assign | apply t_and | apply t_or | apply t_cmp | apply t_not | apply t_addr (fTok _ (by decide)) | apply t_addr (fStm _ (by decide)) | apply t_one tIntL | apply t_one tStrO | apply t_one tBoolL | apply t_one tStrsL | apply t_one tPartsL | apply t_part tTok | apply t_part tStm) <;> (first | (apply EvC.gv; exact rfl; (with_reducible first | exact Imp.refl _ | (apply Imp.left; exact Imp.refl _) | (apply Imp.right; exact Imp.refl _) | (apply Imp.left; apply Imp.left; exact Imp.refl _))) | (apply EvC.now; exact rfl) | exact rfl | (with_reducible exact EvAll.nil) | (focus (repeat (first | apply EvAll.cons | exact EvAll.nil | (apply EvC.gv; exact rfl; (with_reducible first | exact Imp.refl _ | (apply Imp.left; exact Imp.refl _) | (apply Imp.right; exact Imp.refl _) | (apply Imp.left; apply Imp.left; exact Imp.refl _))) | (apply EvC.now; exact rfl))); done) | (first | exact ext_tok _ | exact ext_stm _ _ _) | (focus (repeat (first | apply List.Mem.head | apply List.Mem.tail | apply List.mem_append_right)))))); (simp only [List.set_cons_succ, List.set_cons_zero]; exact rfl)))
      refine wpG_end hR (by kernel_rfl) ?_
      clear hR; intro w hR
      go_wp2_with (first
    | ((with_reducible apply q_ls hR); exact rfl; (with_reducible apply t_lenRd Tryd.underlying23); (apply EvC.now; exact rfl); (with_reducible first | exact hp1 | exact hp2); (simp only [List.set_cons_succ, List.set_cons_zero]; exact rfl); clear hR; intro w hR)
    | ((with_reducible apply q_ls hR); exact rfl; (with_reducible apply t_lenRd Tryd.underlying24); (apply EvC.now; exact rfl); (with_reducible first | exact ha1 | exact ha2); (simp only [List.set_cons_succ, List.set_cons_zero]; exact rfl); clear hR; intro w hR)
    | ((with_reducible apply q_ls hR); exact rfl; (with_reducible apply t_cmp (op := .lss)); (apply EvC.now; exact rfl); (apply EvC.now; exact rfl); exact HL.out; (simp only [List.set_cons_succ, List.set_cons_zero]; exact rfl); clear hR; intro w hR)
    | ((with_reducible apply q_ls hR); exact rfl; (with_reducible apply t_numE (op := .add)); (apply EvC.now; exact rfl); (apply EvC.now; exact rfl); exact rfl; exact HK.out; (simp only [List.set_cons_succ, List.set_cons_zero]; exact rfl); clear hR; intro w hR)
    | ((with_reducible apply wpList_box hR); exact rfl; exact rfl; clear hR; intro g w hR; simp only [List.set_cons_succ, List.set_cons_zero])
    | ((with_reducible apply q_ls hR); exact rfl; ((with_reducible first | apply t_addr (fTok _ (by decide)) | apply t_addr (fStm _ (by decide)) | apply t_one tIntL | apply t_one tStrO | apply t_one tBoolL | apply t_one tStrsL | apply t_one tPartsL | apply t_part tTok | apply t_part tStm) <;> (first | (apply EvC.gv; exact rfl; (with_reducible first | exact Imp.refl _ | (apply Imp.left; exact Imp.refl _) | (apply Imp.right; exact Imp.refl _) | (apply Imp.left; apply Imp.left; exact Imp.refl _))) | (apply EvC.now; exact rfl) | exact rfl | (with_reducible exact EvAll.nil) | (focus (repeat (first | apply EvAll.cons | exact EvAll.nil | (apply EvC.gv; exact rfl; (with_reducible first | exact Imp.refl _ | (apply Imp.left; exact Imp.refl _) | (apply Imp.right; exact Imp.refl _) | (apply Imp.left; apply Imp.left; exact Imp.refl _))) | (apply EvC.now; exact rfl))); done) | (first | exact ext_tok _ | exact ext_stm _ _ _) | (focus (repeat (first | apply List.Mem.head | apply List.Mem.tail | apply List.mem_append_right))))); (simp only [List.set_cons_succ, List.set_cons_zero]; exact rfl); clear hR; intro w hR))
      go_round
      case rel => exact ⟨k + 1, rfl, hlt1, hR⟩
      case measure => simp [intOf]; omega
    · obtain rfl : k = z.pre.length := by omega
      have HL := Lib.hid (show cmpB .lss (z.pre.length : Int) (z.pre.length : Int) = some false from congrArg some (decide_eq_false (by omega)))
      clear hlt1 hk hlp
      go_wp2_with (first
    | ((with_reducible apply q_ls hR); exact rfl; (with_reducible apply t_lenRd Tryd.underlying23); (apply EvC.now; exact rfl); (with_reducible first | exact hp1 | exact hp2); (simp only [List.set_cons_succ, List.set_cons_zero]; exact rfl); clear hR; intro w hR)
    | ((with_reducible apply q_ls hR); exact rfl; (with_reducible apply t_lenRd Tryd.underlying24); (apply EvC.now; exact rfl); (with_reducible first | exact ha1 | exact ha2); (simp only [List.set_cons_succ, List.set_cons_zero]; exact rfl); clear hR; intro w hR)
    | ((with_reducible apply q_ls hR); exact rfl; (with_reducible apply t_cmp (op := .lss)); (apply EvC.now; exact rfl); (apply EvC.now; exact rfl); exact HL.out; (simp only [List.set_cons_succ, List.set_cons_zero]; exact rfl); clear hR; intro w hR)
    | ((with_reducible apply q_ls hR); exact rfl; (with_reducible apply t_numE (op := .add)); (apply EvC.now; exact rfl); (apply EvC.now; exact rfl); exact rfl; exact HK.out; (simp only [List.set_cons_succ, List.set_cons_zero]; exact rfl); clear hR; intro w hR)
    | ((with_reducible apply wpList_box hR); exact rfl; exact rfl; clear hR; intro g w hR; simp only [List.set_cons_succ, List.set_cons_zero])
    | ((with_reducible apply q_ls hR); exact rfl; ((with_reducible first | apply t_addr (fTok _ (by decide)) | apply t_addr (fStm _ (by decide)) | apply t_one tIntL | apply t_one tStrO | apply t_one tBoolL | apply t_one tStrsL | apply t_one tPartsL | apply t_part tTok | apply t_part tStm) <;> (first | (apply EvC.gv; exact rfl; (with_reducible first | exact Imp.refl _ | (apply Imp.left; exact Imp.refl _) | (apply Imp.right; exact Imp.refl _) | (apply Imp.left; apply Imp.left; exact Imp.refl _))) | (apply EvC.now; exact rfl) | exact rfl | (with_reducible exact EvAll.nil) | (focus (repeat (first | apply EvAll.cons | exact EvAll.nil | (apply EvC.gv; exact rfl; (with_reducible first | exact Imp.refl _ | (apply Imp.left; exact Imp.refl _) | (apply Imp.right; exact Imp.refl _) | (apply Imp.left; apply Imp.left; exact Imp.refl _))) | (apply EvC.now; exact rfl))); done) | (first | exact ext_tok _ | exact ext_stm _ _ _) | (focus (repeat (first | apply List.Mem.head | apply List.Mem.tail | apply List.mem_append_right))))); (simp only [List.set_cons_succ, List.set_cons_zero]; exact rfl); clear hR; intro w hR))
      clear HL
      go_loopw [6] (fun i wr => ∃ k : Nat, i = .int .i64 k ∧ k ≤ z.args.length ∧ Own w0 wr [(gb, encSt z vp' va', 26), (ga, encSt z vp va, 26)]) (fun i _ => z.args.length - (intOf i).toNat)
      case atStart => exact ⟨0, rfl, Nat.zero_le _, hR⟩
      case round =>
        clear hR
        obtain ⟨k, rfl, hk, hR⟩ := hrel
        have hla := HLA.out
        by_cases hlt2 : k < z.args.length
        · obtain ⟨p, hp⟩ : ∃ p, z.args[k]? = some p := ⟨_, List.getElem?_eq_getElem hlt2⟩
          have hpl := hlt p (List.mem_of_getElem? hp)
          obtain ⟨a1, c1, u1, rfl, hc1, hu1, ho1⟩ := h1.args.el hp
          obtain ⟨a2, c2, u2, rfl, hc2, hu2, ho2⟩ := h2.args.el hp
          have hr1 := hu1
          have hr2 := hu2
          unfold RowsAt at hr1 hr2
          have HL := Lib.hid (show cmpB .lss (k : Int) (z.args.length : Int) = some true from congrArg some (decide_eq_true (by omega)))
          have HK := Lib.hid (show IntKind.i64.wrap ((k : Int) + 1) = ((k + 1 : Nat) : Int) by rw [IntWalk.i64_in _ (by omega)]; omega)
          have HIX := Lib.hid (show (0 : Int) ≤ k ∧ (k : Int) < z.args.length by omega)
          have HC1 := Lib.hid (show w0.cell? (a1.add ((k : Int).toNat * 1)) = some u1 by rw [Int.toNat_natCast, Nat.mul_one]; exact hc1)
          have HC2 := Lib.hid (show w0.cell? (a2.add ((k : Int).toNat * 1)) = some u2 by rw [Int.toNat_natCast, Nat.mul_one]; exact hc2)
          clear hc1 hc2 hp
          go_upto_region 11 with (first
    | ((with_reducible apply q_ls hR); exact rfl; (with_reducible apply t_lenRd Tryd.underlying23); (apply EvC.now; exact rfl); (with_reducible first | exact hp1 | exact hp2); (simp only [List.set_cons_succ, List.set_cons_zero]; exact rfl); clear hR; intro w hR)
    | ((with_reducible apply q_ls hR); exact rfl; (with_reducible apply t_lenRd Tryd.underlying24); (apply EvC.now; exact rfl); (with_reducible first | exact ha1 | exact ha2); (simp only [List.set_cons_succ, List.set_cons_zero]; exact rfl); clear hR; intro w hR)
    | ((with_reducible apply q_ls hR); exact rfl; (with_reducible apply t_cmp (op := .lss)); (apply EvC.now; exact rfl); (apply EvC.now; exact rfl); exact HL.out; (simp only [List.set_cons_succ, List.set_cons_zero]; exact rfl); clear hR; intro w hR)
    | ((with_reducible apply q_ls hR); exact rfl; (with_reducible apply t_numE (op := .add)); (apply EvC.now; exact rfl); (apply EvC.now; exact rfl); exact rfl; exact HK.out; (simp only [List.set_cons_succ, List.set_cons_zero]; exact rfl); clear hR; intro w hR)
    | ((with_reducible apply wpList_box hR); exact rfl; exact rfl; clear hR; intro g w hR; simp only [List.set_cons_succ, List.set_cons_zero])
    | ((with_reducible apply q_ls hR); exact rfl; ((with_reducible first | apply t_addr (fTok _ (by decide)) | apply t_addr (fStm _ (by decide)) | apply t_one tIntL | apply t_one tStrO | apply t_one tBoolL | apply t_one tStrsL | apply t_one tPartsL | apply t_part tTok | apply t_part tStm) <;> (first | (apply EvC.gv; exact rfl; (with_reducible first | exact Imp.refl _ | (apply Imp.left; exact Imp.refl _) | (apply Imp.right; exact Imp.refl _) | (apply Imp.left; apply Imp.left; exact Imp.refl _))) | (apply EvC.now; exact rfl) | exact rfl | (with_reducible exact EvAll.nil) | (focus (repeat (first | apply EvAll.cons | exact EvAll.nil | (apply EvC.gv; exact rfl; (with_reducible first | exact Imp.refl _ | (apply Imp.left; exact Imp.refl _) | (apply Imp.right; exact Imp.refl _) | (apply Imp.left; apply Imp.left; exact Imp.refl _))) | (apply EvC.now; exact rfl))); done) | (first | exact ext_tok _ | exact ext_stm _ _ _) | (focus (repeat (first | apply List.Mem.head | apply List.Mem.tail | apply List.mem_append_right))))); (simp only [List.set_cons_succ, List.set_cons_zero]; exact rfl); clear hR; intro w hR))
          refine wp_region_rows hR [0, 1, 2, 3, 4, 5, 6, 7, 8, 9, 10, 11, 12] 0 (by kernel_rfl) (by kernel_rfl) (by kernel_rfl) rfl ?_
          clear hR; intro hR
          repeat (refine wpT_step rfl ?_; first
    | ((with_reducible apply q_pl); (with_reducible apply t_six Tryd.underlying24 iToksL); (apply EvC.now; exact rfl); (apply EvC.now; exact rfl); exact HIX.out; (simp only [List.set_cons_succ, List.set_cons_zero]; exact rfl))
    | ((with_reducible apply q_pl); (with_reducible apply t_oldOne tToksL); (apply EvC.now; exact rfl); (with_reducible first | exact HC1.out | exact HC2.out); (with_reducible first | exact ho1 | exact ho2); (simp only [List.set_cons_succ, List.set_cons_zero]; exact rfl))
    | ((with_reducible apply q_pl); (with_reducible apply t_lenRd Tryd.underlying31); (apply EvC.now; exact rfl); (with_reducible first | exact hr1 | exact hr2); (simp only [List.set_cons_succ, List.set_cons_zero]; exact rfl))
    | ((with_reducible apply q_pl); (with_reducible apply t_cmp (op := .neq)); (apply EvC.now; exact rfl); (apply EvC.now; exact rfl); exact cmp_nselfS _; (simp only [List.set_cons_succ, List.set_cons_zero]; exact rfl))
    | ((first | (with_reducible apply q_pl) | ((with_reducible apply q_gd); (first | (apply GdBy.gt; exact rfl; exact rfl) | (apply GdBy.gf; exact rfl; exact rfl) | (apply GdBy.t; exact rfl; exact rfl) | (apply GdBy.f; exact rfl; exact rfl)))); (first | ((with_reducible first | apply t_move | apply t_assign | apply t_and | apply t_or | apply t_cmp | apply t_not | apply t_addr (fTok _ (by decide)) | apply t_addr (fStm _ (by decide)) | apply t_one tIntL | apply t_one tStrO | apply t_one tBoolL | apply t_one tStrsL | apply t_one tPartsL | apply t_part tTok | apply t_part tStm) <;> (first | (apply EvC.gv; exact rfl; (with_reducible first | exact Imp.refl _ | (apply Imp.left; exact Imp.refl _) | (apply Imp.right; exact Imp.refl _) | (apply Imp.left; apply Imp.left; exact Imp.refl _))) | (apply EvC.now; exact rfl) | exact rfl | (with_reducible exact EvAll.nil) | (focus (repeat (first | apply EvAll.cons | exact EvAll.nil | (apply EvC.gv; exact rfl; (with_reducible first | exact Imp.refl _ | (apply Imp.left; exact Imp.refl _) | (apply Imp.right; exact Imp.refl _) | (apply Imp.left; apply Imp.left; exact Imp.refl _))) | (apply EvC.now; exact rfl))); done) | (first | exact ext_tok _ | exact ext_stm _ _ _) | (focus (repeat (first | apply List.Mem.head | apply List.Mem.tail | apply List.mem_append_right)))))); (simp only [List.set_cons_succ, List.set_cons_zero]; exact rfl)))
          refine wpG_end hR (by kernel_rfl) ?_
          clear hR; intro w hR
          go_wp2_with (first
    | ((with_reducible apply q_ls hR); exact rfl; (with_reducible apply t_lenRd Tryd.underlying23); (apply EvC.now; exact rfl); (with_reducible first | exact hp1 | exact hp2); (simp only [List.set_cons_succ, List.set_cons_zero]; exact rfl); clear hR; intro w hR)
    | ((with_reducible apply q_ls hR); exact rfl; (with_reducible apply t_lenRd Tryd.underlying24); (apply EvC.now; exact rfl); (with_reducible first | exact ha1 | exact ha2); (simp only [List.set_cons_succ, List.set_cons_zero]; exact rfl); clear hR; intro w hR)
    | ((with_reducible apply q_ls hR); exact rfl; (with_reducible apply t_cmp (op := .lss)); (apply EvC.now; exact rfl); (apply EvC.now; exact rfl); exact HL.out; (simp only [List.set_cons_succ, List.set_cons_zero]; exact rfl); clear hR; intro w hR)
    | ((with_reducible apply q_ls hR); exact rfl; (with_reducible apply t_numE (op := .add)); (apply EvC.now; exact rfl); (apply EvC.now; exact rfl); exact rfl; exact HK.out; (simp only [List.set_cons_succ, List.set_cons_zero]; exact rfl); clear hR; intro w hR)
    | ((with_reducible apply wpList_box hR); exact rfl; exact rfl; clear hR; intro g w hR; simp only [List.set_cons_succ, List.set_cons_zero])
    | ((with_reducible apply q_ls hR); exact rfl; ((with_reducible first | apply t_addr (fTok _ (by decide)) | apply t_addr (fStm _ (by decide)) | apply t_one tIntL | apply t_one tStrO | apply t_one tBoolL | apply t_one tStrsL | apply t_one tPartsL | apply t_part tTok | apply t_part tStm) <;> (first | (apply EvC.gv; exact rfl; (with_reducible first | exact Imp.refl _ | (apply Imp.left; exact Imp.refl _) | (apply Imp.right; exact Imp.refl _) | (apply Imp.left; apply Imp.left; exact Imp.refl _))) | (apply EvC.now; exact rfl) | exact rfl | (with_reducible exact EvAll.nil) | (focus (repeat (first | apply EvAll.cons | exact EvAll.nil | (apply EvC.gv; exact rfl; (with_reducible first | exact Imp.refl _ | (apply Imp.left; exact Imp.refl _) | (apply Imp.right; exact Imp.refl _) | (apply Imp.left; apply Imp.left; exact Imp.refl _))) | (apply EvC.now; exact rfl))); done) | (first | exact ext_tok _ | exact ext_stm _ _ _) | (focus (repeat (first | apply List.Mem.head | apply List.Mem.tail | apply List.mem_append_right))))); (simp only [List.set_cons_succ, List.set_cons_zero]; exact rfl); clear hR; intro w hR))
          clear HL
          go_loopw [7] (fun i wr => ∃ q : Nat, i = .int .i64 q ∧ q ≤ p.length ∧ Own w0 wr [(gb, encSt z vp' (.slice (some a2) z.args.length c2), 26), (ga, encSt z vp (.slice (some a1) z.args.length c1), 26)]) (fun i _ => p.length - (intOf i).toNat)
          case atStart => exact ⟨0, rfl, Nat.zero_le _, hR⟩
          case round =>
            clear hR
            obtain ⟨q, rfl, hq, hR⟩ := hrel
            by_cases hlt3 : q < p.length
            · obtain ⟨tk, htk⟩ : ∃ tk, p[q]? = some tk := ⟨_, List.getElem?_eq_getElem hlt3⟩
              obtain ⟨b1, d1, rfl, he1⟩ := RowsAt.el cellsTok_len hu1 htk
              obtain ⟨b2, d2, rfl, he2⟩ := RowsAt.el cellsTok_len hu2 htk
              have HL := Lib.hid (show cmpB .lss (q : Int) (p.length : Int) = some true from congrArg some (decide_eq_true (by omega)))
              have HQ := Lib.hid (show IntKind.i64.wrap ((q : Int) + 1) = ((q + 1 : Nat) : Int) by rw [IntWalk.i64_in _ (by omega)]; omega)
              have HJX := Lib.hid (show (0 : Int) ≤ q ∧ (q : Int) < p.length by omega)
              have HE1 := Lib.hid (show ∀ j u, (encTok tk).toList[j]? = some u → w0.cell? ((b1.add ((q : Int).toNat * 4)).add j) = some u by rw [Int.toNat_natCast]; exact he1)
              have HE2 := Lib.hid (show ∀ j u, (encTok tk).toList[j]? = some u → w0.cell? ((b2.add ((q : Int).toNat * 4)).add j) = some u by rw [Int.toNat_natCast]; exact he2)
              clear he1 he2 htk
              go_upto_region 16 with (first
    | ((with_reducible apply q_ls hR); exact rfl; (with_reducible apply t_six Tryd.underlying24 iToksL); (apply EvC.now; exact rfl); (apply EvC.now; exact rfl); exact HIX.out; (simp only [List.set_cons_succ, List.set_cons_zero]; exact rfl); clear hR; intro w hR)
    | ((with_reducible apply q_ls hR); exact rfl; (with_reducible apply t_oldOne tToksL); (apply EvC.now; exact rfl); (with_reducible first | exact HC1.out | exact HC2.out); exact rfl; (simp only [List.set_cons_succ, List.set_cons_zero]; exact rfl); clear hR; intro w hR)
    | ((with_reducible apply q_ls hR); exact rfl; (with_reducible apply t_len Tryd.underlying31); (apply EvC.now; exact rfl); (simp only [List.set_cons_succ, List.set_cons_zero]; exact rfl); clear hR; intro w hR)
    | ((with_reducible apply q_ls hR); exact rfl; (with_reducible apply t_lenRd Tryd.underlying23); (apply EvC.now; exact rfl); (with_reducible first | exact hp1 | exact hp2); (simp only [List.set_cons_succ, List.set_cons_zero]; exact rfl); clear hR; intro w hR)
    | ((with_reducible apply q_ls hR); exact rfl; (with_reducible apply t_lenRd Tryd.underlying24); (apply EvC.now; exact rfl); (with_reducible first | exact ha1 | exact ha2); (simp only [List.set_cons_succ, List.set_cons_zero]; exact rfl); clear hR; intro w hR)
    | ((with_reducible apply q_ls hR); exact rfl; (with_reducible apply t_cmp (op := .lss)); (apply EvC.now; exact rfl); (apply EvC.now; exact rfl); exact HL.out; (simp only [List.set_cons_succ, List.set_cons_zero]; exact rfl); clear hR; intro w hR)
    | ((with_reducible apply q_ls hR); exact rfl; (with_reducible apply t_numE (op := .add)); (apply EvC.now; exact rfl); (apply EvC.now; exact rfl); exact rfl; exact HK.out; (simp only [List.set_cons_succ, List.set_cons_zero]; exact rfl); clear hR; intro w hR)
    | ((with_reducible apply wpList_box hR); exact rfl; exact rfl; clear hR; intro g w hR; simp only [List.set_cons_succ, List.set_cons_zero])
    | ((with_reducible apply q_ls hR); exact rfl; ((with_reducible first | apply t_addr (fTok _ (by decide)) | apply t_addr (fStm _ (by decide)) | apply t_one tIntL | apply t_one tStrO | apply t_one tBoolL | apply t_one tStrsL | apply t_one tPartsL | apply t_part tTok | apply t_part tStm) <;> (first | (apply EvC.gv; exact rfl; (with_reducible first | exact Imp.refl _ | (apply Imp.left; exact Imp.refl _) | (apply Imp.right; exact Imp.refl _) | (apply Imp.left; apply Imp.left; exact Imp.refl _))) | (apply EvC.now; exact rfl) | exact rfl | (with_reducible exact EvAll.nil) | (focus (repeat (first | apply EvAll.cons | exact EvAll.nil | (apply EvC.gv; exact rfl; (with_reducible first | exact Imp.refl _ | (apply Imp.left; exact Imp.refl _) | (apply Imp.right; exact Imp.refl _) | (apply Imp.left; apply Imp.left; exact Imp.refl _))) | (apply EvC.now; exact rfl))); done) | (first | exact ext_tok _ | exact ext_stm _ _ _) | (focus (repeat (first | apply List.Mem.head | apply List.Mem.tail | apply List.mem_append_right))))); (simp only [List.set_cons_succ, List.set_cons_zero]; exact rfl); clear hR; intro w hR))
              refine wp_region_rows hR [0, 1, 2, 3, 4, 5, 6, 7, 8, 9, 10, 11, 12, 13, 14, 15, 16] 0 (by kernel_rfl) (by kernel_rfl) (by kernel_rfl) rfl ?_
              clear hR; intro hR
              repeat (refine wpT_step rfl ?_; first
    | ((with_reducible apply q_pl); (with_reducible apply t_six Tryd.underlying24 iToksL); (apply EvC.now; exact rfl); (apply EvC.now; exact rfl); exact HIX.out; (simp only [List.set_cons_succ, List.set_cons_zero]; exact rfl))
    | ((with_reducible apply q_pl); (with_reducible apply t_six Tryd.underlying31 iTok); (apply EvC.now; exact rfl); (apply EvC.now; exact rfl); exact HJX.out; (simp only [List.set_cons_succ, List.set_cons_zero]; exact rfl))
    | ((with_reducible apply q_pl); (with_reducible apply t_oldOne tToksL); (apply EvC.now; exact rfl); (with_reducible first | exact HC1.out | exact HC2.out); exact rfl; (simp only [List.set_cons_succ, List.set_cons_zero]; exact rfl))
    | ((with_reducible apply q_pl); (with_reducible apply t_oldMany tTok); (apply EvC.now; exact rfl); (with_reducible first | exact HE1.out | exact HE2.out); exact rfl; (simp only [List.set_cons_succ, List.set_cons_zero]; exact rfl))
    | ((with_reducible apply q_pl); (with_reducible apply t_nel gTok); (apply EvC.now; exact rfl); (apply EvC.now; exact rfl); exact eqTok_self tk; (simp only [List.set_cons_succ, List.set_cons_zero]; exact rfl))
    | ((first | (with_reducible apply q_pl) | ((with_reducible apply q_gd); (first | (apply GdBy.gt; exact rfl; exact rfl) | (apply GdBy.gf; exact rfl; exact rfl) | (apply GdBy.t; exact rfl; exact rfl) | (apply GdBy.f; exact rfl; exact rfl)))); (first | ((with_reducible first | apply t_move | apply t_assign | apply t_and | apply t_or | apply t_cmp | apply t_not | apply t_addr (fTok _ (by decide)) | apply t_addr (fStm _ (by decide)) | apply t_one tIntL | apply t_one tStrO | apply t_one tBoolL | apply t_one tStrsL | apply t_one tPartsL | apply t_part tTok | apply t_part tStm) <;> (first | (apply EvC.gv; exact rfl; (with_reducible first | exact Imp.refl _ | (apply Imp.left; exact Imp.refl _) | (apply Imp.right; exact Imp.refl _) | (apply Imp.left; apply Imp.left; exact Imp.refl _))) | (apply EvC.now; exact rfl) | exact rfl | (with_reducible exact EvAll.nil) | (focus (repeat (first | apply EvAll.cons | exact EvAll.nil | (apply EvC.gv; exact rfl; (with_reducible first | exact Imp.refl _ | (apply Imp.left; exact Imp.refl _) | (apply Imp.right; exact Imp.refl _) | (apply Imp.left; apply Imp.left; exact Imp.refl _))) | (apply EvC.now; exact rfl))); done) | (first | exact ext_tok _ | exact ext_stm _ _ _) | (focus (repeat (first | apply List.Mem.head | apply List.Mem.tail | apply List.mem_append_right)))))); (simp only [List.set_cons_succ, List.set_cons_zero]; exact rfl)))
              refine wpG_end hR (by kernel_rfl) ?_
              clear hR; intro w hR
              go_upto_if 109 with fail
              refine wp_cond_at (nm := false) rfl rfl (fun h => absurd h (by decide)) (fun _ => ?_)
              go_wp2_with (first
    | ((with_reducible apply q_ls hR); exact rfl; (with_reducible apply t_numE (op := .add)); (apply EvC.now; exact rfl); (apply EvC.now; exact rfl); exact rfl; exact HQ.out; (simp only [List.set_cons_succ, List.set_cons_zero]; exact rfl); clear hR; intro w hR))
              go_round
              case rel => exact ⟨q + 1, rfl, hlt3, hR⟩
              case measure => simp [intOf]; omega
            · obtain rfl : q = p.length := by omega
              have HL := Lib.hid (show cmpB .lss (p.length : Int) (p.length : Int) = some false from congrArg some (decide_eq_false (by omega)))
              go_wp2_with (first
    | ((with_reducible apply q_ls hR); exact rfl; (with_reducible apply t_six Tryd.underlying24 iToksL); (apply EvC.now; exact rfl); (apply EvC.now; exact rfl); exact HIX.out; (simp only [List.set_cons_succ, List.set_cons_zero]; exact rfl); clear hR; intro w hR)
    | ((with_reducible apply q_ls hR); exact rfl; (with_reducible apply t_oldOne tToksL); (apply EvC.now; exact rfl); (with_reducible first | exact HC1.out | exact HC2.out); (with_reducible first | exact ho1 | exact ho2); (simp only [List.set_cons_succ, List.set_cons_zero]; exact rfl); clear hR; intro w hR)
    | ((with_reducible apply q_ls hR); exact rfl; (with_reducible apply t_lenRd Tryd.underlying31); (apply EvC.now; exact rfl); (with_reducible first | exact hr1 | exact hr2); (simp only [List.set_cons_succ, List.set_cons_zero]; exact rfl); clear hR; intro w hR)
    | ((with_reducible apply q_ls hR); exact rfl; (with_reducible apply t_lenRd Tryd.underlying23); (apply EvC.now; exact rfl); (with_reducible first | exact hp1 | exact hp2); (simp only [List.set_cons_succ, List.set_cons_zero]; exact rfl); clear hR; intro w hR)
    | ((with_reducible apply q_ls hR); exact rfl; (with_reducible apply t_lenRd Tryd.underlying24); (apply EvC.now; exact rfl); (with_reducible first | exact ha1 | exact ha2); (simp only [List.set_cons_succ, List.set_cons_zero]; exact rfl); clear hR; intro w hR)
    | ((with_reducible apply q_ls hR); exact rfl; (with_reducible apply t_cmp (op := .lss)); (apply EvC.now; exact rfl); (apply EvC.now; exact rfl); exact HL.out; (simp only [List.set_cons_succ, List.set_cons_zero]; exact rfl); clear hR; intro w hR)
    | ((with_reducible apply q_ls hR); exact rfl; (with_reducible apply t_numE (op := .add)); (apply EvC.now; exact rfl); (apply EvC.now; exact rfl); exact rfl; exact HK.out; (simp only [List.set_cons_succ, List.set_cons_zero]; exact rfl); clear hR; intro w hR)
    | ((with_reducible apply wpList_box hR); exact rfl; exact rfl; clear hR; intro g w hR; simp only [List.set_cons_succ, List.set_cons_zero])
    | ((with_reducible apply q_ls hR); exact rfl; ((with_reducible first | apply t_addr (fTok _ (by decide)) | apply t_addr (fStm _ (by decide)) | apply t_one tIntL | apply t_one tStrO | apply t_one tBoolL | apply t_one tStrsL | apply t_one tPartsL | apply t_part tTok | apply t_part tStm) <;> (first | (apply EvC.gv; exact rfl; (with_reducible first | exact Imp.refl _ | (apply Imp.left; exact Imp.refl _) | (apply Imp.right; exact Imp.refl _) | (apply Imp.left; apply Imp.left; exact Imp.refl _))) | (apply EvC.now; exact rfl) | exact rfl | (with_reducible exact EvAll.nil) | (focus (repeat (first | apply EvAll.cons | exact EvAll.nil | (apply EvC.gv; exact rfl; (with_reducible first | exact Imp.refl _ | (apply Imp.left; exact Imp.refl _) | (apply Imp.right; exact Imp.refl _) | (apply Imp.left; apply Imp.left; exact Imp.refl _))) | (apply EvC.now; exact rfl))); done) | (first | exact ext_tok _ | exact ext_stm _ _ _) | (focus (repeat (first | apply List.Mem.head | apply List.Mem.tail | apply List.mem_append_right))))); (simp only [List.set_cons_succ, List.set_cons_zero]; exact rfl); clear hR; intro w hR))
              go_round
              case rel => exact ⟨k + 1, rfl, hlt2, hR⟩
              case measure => simp [intOf]; omega
        · obtain rfl : k = z.args.length := by omega
          have HL := Lib.hid (show cmpB .lss (z.args.length : Int) (z.args.length : Int) = some false from congrArg some (decide_eq_false (by omega)))
          go_wp2_with (first
    | ((with_reducible apply q_ls hR); exact rfl; (with_reducible apply t_lenRd Tryd.underlying23); (apply EvC.now; exact rfl); (with_reducible first | exact hp1 | exact hp2); (simp only [List.set_cons_succ, List.set_cons_zero]; exact rfl); clear hR; intro w hR)
    | ((with_reducible apply q_ls hR); exact rfl; (with_reducible apply t_lenRd Tryd.underlying24); (apply EvC.now; exact rfl); (with_reducible first | exact ha1 | exact ha2); (simp only [List.set_cons_succ, List.set_cons_zero]; exact rfl); clear hR; intro w hR)
    | ((with_reducible apply q_ls hR); exact rfl; (with_reducible apply t_cmp (op := .lss)); (apply EvC.now; exact rfl); (apply EvC.now; exact rfl); exact HL.out; (simp only [List.set_cons_succ, List.set_cons_zero]; exact rfl); clear hR; intro w hR)
    | ((with_reducible apply q_ls hR); exact rfl; (with_reducible apply t_numE (op := .add)); (apply EvC.now; exact rfl); (apply EvC.now; exact rfl); exact rfl; exact HK.out; (simp only [List.set_cons_succ, List.set_cons_zero]; exact rfl); clear hR; intro w hR)
    | ((with_reducible apply wpList_box hR); exact rfl; exact rfl; clear hR; intro g w hR; simp only [List.set_cons_succ, List.set_cons_zero])
    | ((with_reducible apply q_ls hR); exact rfl; ((with_reducible first | apply t_addr (fTok _ (by decide)) | apply t_addr (fStm _ (by decide)) | apply t_one tIntL | apply t_one tStrO | apply t_one tBoolL | apply t_one tStrsL | apply t_one tPartsL | apply t_part tTok | apply t_part tStm) <;> (first | (apply EvC.gv; exact rfl; (with_reducible first | exact Imp.refl _ | (apply Imp.left; exact Imp.refl _) | (apply Imp.right; exact Imp.refl _) | (apply Imp.left; apply Imp.left; exact Imp.refl _))) | (apply EvC.now; exact rfl) | exact rfl | (with_reducible exact EvAll.nil) | (focus (repeat (first | apply EvAll.cons | exact EvAll.nil | (apply EvC.gv; exact rfl; (with_reducible first | exact Imp.refl _ | (apply Imp.left; exact Imp.refl _) | (apply Imp.right; exact Imp.refl _) | (apply Imp.left; apply Imp.left; exact Imp.refl _))) | (apply EvC.now; exact rfl))); done) | (first | exact ext_tok _ | exact ext_stm _ _ _) | (focus (repeat (first | apply List.Mem.head | apply List.Mem.tail | apply List.mem_append_right))))); (simp only [List.set_cons_succ, List.set_cons_zero]; exact rfl); clear hR; intro w hR))
          go_ret
          exact ⟨rfl, hR.below⟩
end Go.Proofs.YtjecckmcjcikdaaDoor
