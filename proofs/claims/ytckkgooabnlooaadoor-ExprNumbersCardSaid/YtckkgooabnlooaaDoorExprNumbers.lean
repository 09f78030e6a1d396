/- The law ExprNumbers (x) returns true whatever the arguments, in a state in which the listed package-level tables hold what the program lays them with (the card ties that to its text), and each argument reads afterwards as before. There is no condition on the arguments. -/
import Derived.Test.YtckkgooabnlooaaDoorRows
import Derived.Test.YtckkgooabnlooaaDoorNumB
import Derived.WalkKit
import Derived.ProofKit
import Derived.OpenShut
import Derived.ShutString
import Derived.ChangeOld
import Derived.Below
import Derived.Test.YtckkgooabnlooaaDoorTie
import Derived.Test.YtckkgooabnlooaaDoorCards
import Derived.Test.YtckkgooabnlooaaDoorExpTab
import Derived.SevenTiedAt
namespace Go.Proofs.YtckkgooabnlooaaDoor.exprNumbers
open Go.ChangeShapes Go.WideShapes Go.ChangeAt Go.RowKit
open Go.ChangeMaps (open_string shut_string)
set_option linter.unusedVariables false
set_option linter.unusedSimpArgs false

theorem own : ownKnob Tryd.prog.godebug = none := by kernel_rfl
theorem laidOut : laidOutB Tryd.prog = true := by kernel_rfl



















theorem num_of {x M : Int} (hM : M ≤ 40) : numberR (opdR (.ok (numP x) ⟨[], 0, M, 0⟩)) = (numVZ x true, 0) := by
  have e : wholeR (.ok (numP x) ⟨[], 0, M, 0⟩) = .ok (operandZ (numP x)) ⟨[], 0, M, 0⟩ := by
    show (if (40 : Int) < M then Rs.bad 8 else Rs.ok (operandZ (numP x)) ⟨[], 0, M, 0⟩) = _
    rw [if_neg (by omega)]
  have e2 : opdR (.ok (numP x) ⟨[], 0, M, 0⟩) = (operandZ (numP x), 0) := by
    unfold opdR
    rw [e]
  rw [e2]
  have e3 : operandZ (numP x) = ⟨4, 0, 8, numVZ x true, 0, 0, false⟩ := rfl
  rw [e3]
  rfl
structure NumW (t : ExZ) (n : Int) (ok : Bool) : Prop where
  got : ∃ N v f, (parseM zTab N (.ex 1) (startS (tkE t))).got ∧ numberR (opdR (parseM zTab N (.ex 1) (startS (tkE t)))) = (v, f) ∧ ((ok = false ∧ f = 3) ∨ (ok = true ∧ f = 0 ∧ v = ⟨n, 0, 0, 0, 0, true⟩))
theorem num_w {t : ExZ} {n : Int} {ok : Bool} (hok : okE t) (hd : depE t ≤ 4) (hr : RelV (valE t) n ok) : NumW t n ok := by
  have h := tree_reads zTab t hok (startS (tkE t)) [] 1 (by simp [startS]) (Int.le_refl 0) (by show (0 : Int) + depE t ≤ 1000; omega) (Int.le_refl 1) (stE_bd t) (by have := stE_bd t; show (0 : Int) ≤ stE t; omega) (show isZ noTok 4 sIN = false by decide)
  obtain ⟨_, hr⟩ := hr
  cases hv : valE t with
  | none =>
    rw [hv] at h hr
    obtain ⟨N, hN⟩ := h
    have hp := hN N (Nat.le_refl N)
    refine ⟨N, zeroVal, 3, by rw [hp]; trivial, by rw [hp]; rfl, .inl ⟨hr, rfl⟩⟩
  | some x =>
    rw [hv] at h hr
    obtain ⟨h1, h2⟩ := hr
    obtain ⟨M, hM, h3⟩ := h
    have hM2 : M ≤ max 0 (0 + (depE t : Int)) := hM
    obtain ⟨N, hN⟩ := h3 _ (Reads.lo_stop (show (0 : Int) < 1 by decide))
    have hp : parseM zTab N (.ex 1) (startS (tkE t)) = .ok (numP x) ⟨[], 0, M, 0⟩ := hN N (Nat.le_refl N)
    refine ⟨N, numVZ x true, 0, by rw [hp]; trivial, by rw [hp]; exact num_of (by omega), .inr ⟨h1, rfl, ?_⟩⟩
    rw [← h2]; rfl
set_option maxHeartbeats 1000000 in
set_option maxRecDepth 100000 in
theorem walk {w0 : World} (v0 : Value) (hA : IntsIn w0 v0) (wi : World) (hT : Tabs w0) :
    Calls Tryd.prog 3 #[v0] w0 fun e w' => e = .returned (.bool true) ∧ Below w0.heap.size w0 w' := by
  clear wi
  obtain ⟨ks, _, hK⟩ := hA
  have hR := Own.start w0
  have hZ := Since.start w0
  go_enter Tryd.func3, Tryd.ntmps3
  go_upto_region 2 with (first
    | (go_at_call 7; refine (make4_any (hK.own hR)).mono ?_; rintro e w1 ⟨t, v, n, ok, a, ws, rfl, hb, hok, hd, hrel, hSt, hAr, hLn, _⟩; replace hR := hR.grow hb; replace hT := hT.own hR; replace hZ := hZ.own hR; clear hR hb; have hR := Own.start w1)
    | ((with_reducible apply q_ls hR); exact rfl; (with_reducible apply t_extract); (apply EvC.now; exact rfl); exact rfl; (simp only [cS, cZ]; exact rfl); clear hR; intro w hR))
  have HLN := Lib.hid (show ws.length ≤ 1000 by (have h : lenB 4 = 91 := rfl); omega)
  obtain ⟨N, vz, f, hg, hnum, hw⟩ := (num_w hok hd hrel).got
  clear hrel hK
  rcases hw with ⟨rfl, rfl⟩ | ⟨rfl, rfl, rfl⟩
  · skip
    go_upto_region 4 with (first
        | (go_at_call 9; refine (toksE_any hAr (hSt.own hR) HLN.out).mono ?_; rintro e w' ⟨vt, rfl, hb, hTk⟩; replace hR := hR.grow hb; clear hb)
        | ((with_reducible apply wpList_built); exact rfl; exact rfl; exact bTab0; (simp only [cS, cZ]; exact rfl))
        | (go_at_call 8; refine (numE_any (hT.own hR) (zTab_in _) hTk _ (hg)).mono ?_; rintro e w' ⟨rfl, hb⟩; replace hR := hR.grow hb; clear hb; rw [hnum])
        | ((with_reducible apply q_ls hR); exact rfl; (with_reducible apply t_extract); (apply EvC.now; exact rfl); exact rfl; (simp only [cS, cZ]; exact rfl); clear hR; intro w hR)
        | ((with_reducible apply wpList_box hR); exact rfl; exact rfl; clear hR; intro g w hR; simp only [cS, cZ])
        | ((with_reducible apply wpList_make hR zVal); exact rfl; clear hR; intro g w hR; simp only [cS, cZ])
        | ((with_reducible apply q_ls hR); exact rfl; ((with_reducible first | apply t_part tVal) <;> (first | (focus (repeat (first | (apply EvC.gv; exact rfl; (with_reducible first | exact Imp.refl _ | (apply Imp.left; exact Imp.refl _) | (apply Imp.right; exact Imp.refl _) | (apply Imp.left; apply Imp.left; exact Imp.refl _))) | (apply EvC.now; exact rfl) | (with_reducible first | apply EvAll.cons | exact EvAll.nil))); done) | exact rfl | (first | exact ext_val _ | exact ext_partV _ | exact ext_rdrH _ _ _) | (focus (repeat (first | apply List.Mem.head | apply List.Mem.tail | apply List.mem_append_right))))); (simp only [cS, cZ]; exact rfl); clear hR; intro w hR)
        | ((with_reducible apply wpList_put hR tVal); exact rfl; exact rfl; exact rfl; (focus (repeat (first | apply List.Mem.head | apply List.Mem.tail | apply List.mem_append_right))); exact put_val _ _; exact rfl; exact Nat.le_refl 6; exact one_val _; (focus (repeat (first | apply Upd.head | apply Upd.tail))); clear hR; intro w hR))
    refine wp_region_tame hR [0, 1, 2, 3, 4, 5] rfl ?_
    repeat (refine wpT_step rfl ?_; first
        | ((with_reducible apply q_kn); exact rfl; (with_reducible apply t_call Tryd.call10); (first | (focus (repeat (first | (apply EvC.gv; exact rfl; (with_reducible first | exact Imp.refl _ | (apply Imp.left; exact Imp.refl _) | (apply Imp.right; exact Imp.refl _) | (apply Imp.left; apply Imp.left; exact Imp.refl _))) | (apply EvC.now; exact rfl) | (with_reducible first | apply EvAll.cons | exact EvAll.nil))); done) | exact rfl | (first | exact ext_val _ | exact ext_partV _ | exact ext_rdrH _ _ _) | (focus (repeat (first | apply List.Mem.head | apply List.Mem.tail | apply List.mem_append_right)))); (intro hcc w hC; exact tame_below (awake_any (hT.own hC)) hC); (simp only [cS, cZ]; exact rfl))
        | ((with_reducible apply q_kn); exact rfl; (with_reducible apply t_eql gVal); (apply EvC.now; exact rfl); (apply EvC.now; exact rfl); exact eqV_self _; (simp only [cS, cZ]; exact rfl))
        | ((with_reducible apply q_kn); exact rfl; (with_reducible apply t_cmp); (apply EvC.now; exact rfl); (apply EvC.now; exact rfl); exact rfl; (simp only [cS, cZ]; exact rfl))
        | ((with_reducible apply q_kn); exact rfl; (with_reducible apply t_built); exact rfl; exact bValN _ _; (simp only [cS, cZ]; exact rfl))
        | ((with_reducible apply q_kn); exact rfl; (first | ((with_reducible first | apply t_move | apply t_assign | apply t_part tVal) <;> (first | (focus (repeat (first | (apply EvC.gv; exact rfl; (with_reducible first | exact Imp.refl _ | (apply Imp.left; exact Imp.refl _) | (apply Imp.right; exact Imp.refl _) | (apply Imp.left; apply Imp.left; exact Imp.refl _))) | (apply EvC.now; exact rfl) | (with_reducible first | apply EvAll.cons | exact EvAll.nil))); done) | exact rfl | (first | exact ext_val _ | exact ext_partV _ | exact ext_rdrH _ _ _) | (focus (repeat (first | apply List.Mem.head | apply List.Mem.tail | apply List.mem_append_right))))) | ((with_reducible apply t_pick); (apply EvC.now; exact rfl); (apply EvC.now; exact rfl))); (simp only [cS, cZ]; exact rfl))
        | ((with_reducible apply wpT1_skipL); exact rfl; (simp only [cS, cZ]; exact rfl)))
    refine wpT_nil ?_
    clear hR; intro w hR
    go_wp2_with fail
    go_ret
    exact ⟨ret_bool (by kernel_rfl), (hZ.own hR).below⟩
  · skip
    go_upto_region 5 with (first
        | (go_at_call 9; refine (toksE_any hAr (hSt.own hR) HLN.out).mono ?_; rintro e w' ⟨vt, rfl, hb, hTk⟩; replace hR := hR.grow hb; clear hb)
        | ((with_reducible apply wpList_built); exact rfl; exact rfl; exact bTab0; (simp only [cS, cZ]; exact rfl))
        | (go_at_call 8; refine (numE_any (hT.own hR) (zTab_in _) hTk _ (hg)).mono ?_; rintro e w' ⟨rfl, hb⟩; replace hR := hR.grow hb; clear hb; rw [hnum])
        | ((with_reducible apply q_ls hR); exact rfl; (with_reducible apply t_extract); (apply EvC.now; exact rfl); exact rfl; (simp only [cS, cZ]; exact rfl); clear hR; intro w hR)
        | ((with_reducible apply wpList_box hR); exact rfl; exact rfl; clear hR; intro g w hR; simp only [cS, cZ])
        | ((with_reducible apply wpList_make hR zVal); exact rfl; clear hR; intro g w hR; simp only [cS, cZ])
        | ((with_reducible apply q_ls hR); exact rfl; ((with_reducible first | apply t_part tVal) <;> (first | (focus (repeat (first | (apply EvC.gv; exact rfl; (with_reducible first | exact Imp.refl _ | (apply Imp.left; exact Imp.refl _) | (apply Imp.right; exact Imp.refl _) | (apply Imp.left; apply Imp.left; exact Imp.refl _))) | (apply EvC.now; exact rfl) | (with_reducible first | apply EvAll.cons | exact EvAll.nil))); done) | exact rfl | (first | exact ext_val _ | exact ext_partV _ | exact ext_rdrH _ _ _) | (focus (repeat (first | apply List.Mem.head | apply List.Mem.tail | apply List.mem_append_right))))); (simp only [cS, cZ]; exact rfl); clear hR; intro w hR)
        | ((with_reducible apply wpList_put hR tVal); exact rfl; exact rfl; exact rfl; (focus (repeat (first | apply List.Mem.head | apply List.Mem.tail | apply List.mem_append_right))); exact put_val _ _; exact rfl; exact Nat.le_refl 6; exact one_val _; (focus (repeat (first | apply Upd.head | apply Upd.tail))); clear hR; intro w hR))
    refine wp_region_tame hR [0, 1, 2, 3, 4, 5, 6, 7, 8, 9, 10, 11] rfl ?_
    repeat (refine wpT_step rfl ?_; first
        | ((with_reducible apply q_kn); exact rfl; (with_reducible apply t_call Tryd.call10); (first | (focus (repeat (first | (apply EvC.gv; exact rfl; (with_reducible first | exact Imp.refl _ | (apply Imp.left; exact Imp.refl _) | (apply Imp.right; exact Imp.refl _) | (apply Imp.left; apply Imp.left; exact Imp.refl _))) | (apply EvC.now; exact rfl) | (with_reducible first | apply EvAll.cons | exact EvAll.nil))); done) | exact rfl | (first | exact ext_val _ | exact ext_partV _ | exact ext_rdrH _ _ _) | (focus (repeat (first | apply List.Mem.head | apply List.Mem.tail | apply List.mem_append_right)))); (intro hcc w hC; exact tame_below (awake_any (hT.own hC)) hC); (simp only [cS, cZ]; exact rfl))
        | ((with_reducible apply q_kn); exact rfl; (with_reducible apply t_eql gVal); (apply EvC.now; exact rfl); (apply EvC.now; exact rfl); exact eqV_self _; (simp only [cS, cZ]; exact rfl))
        | ((with_reducible apply q_kn); exact rfl; (with_reducible apply t_cmp); (apply EvC.now; exact rfl); (apply EvC.now; exact rfl); exact rfl; (simp only [cS, cZ]; exact rfl))
        | ((with_reducible apply q_kn); exact rfl; (with_reducible apply t_built); exact rfl; exact bValN _ _; (simp only [cS, cZ]; exact rfl))
        | ((with_reducible apply q_kn); exact rfl; (first | ((with_reducible first | apply t_move | apply t_assign | apply t_part tVal) <;> (first | (focus (repeat (first | (apply EvC.gv; exact rfl; (with_reducible first | exact Imp.refl _ | (apply Imp.left; exact Imp.refl _) | (apply Imp.right; exact Imp.refl _) | (apply Imp.left; apply Imp.left; exact Imp.refl _))) | (apply EvC.now; exact rfl) | (with_reducible first | apply EvAll.cons | exact EvAll.nil))); done) | exact rfl | (first | exact ext_val _ | exact ext_partV _ | exact ext_rdrH _ _ _) | (focus (repeat (first | apply List.Mem.head | apply List.Mem.tail | apply List.mem_append_right))))) | ((with_reducible apply t_pick); (apply EvC.now; exact rfl); (apply EvC.now; exact rfl))); (simp only [cS, cZ]; exact rfl))
        | ((with_reducible apply wpT1_skipL); exact rfl; (simp only [cS, cZ]; exact rfl)))
    refine wpT_nil ?_
    clear hR; intro w hR
    go_wp2_with fail
    go_ret
    exact ⟨ret_bool (by kernel_rfl), (hZ.own hR).below⟩

set_option maxRecDepth 100000 in
theorem lifted (os : Os) (started : os.Started) (H : Type) (enc : TypeId × Value → H) :
    ReturnsInHanded {} Tryd.checked os 3 .any (fun w args => (Rows.exprNumbersSpec.pre enc Tryd.prog Tryd.f3 [] false w args ∧ laidMetH Tryd.prog laid2 w) ∧ sizedMet enc Tryd.prog Tryd.f3 (OpenSpec.ofChange Rows.exprNumbersSpec) false w args)
      (Rows.exprNumbersSpec.post enc Tryd.prog Tryd.f3 false true false false) := by
  refine returnsInHanded_of_change_and (C := Tryd.checked) (X := fun w _ => laidMetH Tryd.prog laid2 w) (fun _ _ _ hh h => h.of_heap hh) own started (by kernel_rfl) Tryd.func3
    (ChangeSpec.witness_shaped (enc := enc) (C := Tryd.checked) (os := os) (X := fun w _ => laidMetH Tryd.prog laid2 w) false (World.doorLaid Tryd.prog 400 os) #[.slice none 0 0] 8 rfl (World.shaped_of_RefB (by kernel_rfl) (by kernel_rfl)) (by kernel_rfl) (by kernel_rfl) (by kernel_rfl) (door_met os _)) ?_
  intro W base args ds gs before hval0 hW _ _ hL _
  have hval : ∀ (j : Nat) t v, Tryd.f3.params[j]? = some t → args[j]? = some v → Value.okWide Tryd.prog W .any base t v := hval0
  have hW' := hW
  obtain ⟨p, q, hA0, hV, rfl, hfz, hnd⟩ := hW
  have hA : DataW.TrodAll enc Tryd.prog W 0 (fun _ => true) true Tryd.f3.params.toList args.toList ds p := hA0
  rw [Tryd.params3] at hA hval
  obtain ⟨v0, vs0, d0, ds0, p0, q0, hargs, rfl, rfl, h0, r0⟩ := trodAll_cons hA
  obtain ⟨rfl, rfl, rfl⟩ := trodAll_nil r0
  obtain rfl : args = #[v0] := by cases args; simp_all
  obtain ⟨rfl, rfl⟩ := trodVars_none hV
  have k0 := h0
  have lt0 : ∀ x ∈ p0, x.block < W.heap.size := by obtain ⟨m, hm⟩ := k0; exact DataW.trod_lt m _ _ _ hm
  have o0 := open_i64s (hval 0 22 v0 rfl rfl) h0
  clear hA0 hval0
  refine (walk v0 o0 W (of_laid hL)).mono fun e W' ⟨he, bel⟩ => ?_
  subst he
  exact ⟨_, rfl, _, _, _, [], _, [], hW', trodAll_mk1 (shut_bool Tryd.underlying4 _), (trodAll_cons_mk (Below.trod laidOut (by kernel_rfl) (of_decide_eq_true (by kernel_rfl)) k0 bel lt0) trodAll_mk0), rfl, bel.frame _, fun h => by cases h⟩

theorem over : Rows.exprNumbersRow.holds Tryd.pinned (OpenSpec.ofChange Rows.exprNumbersSpec) :=
  OpenClaim.holds_of_wide 3 Tryd.f3 rfl rfl rfl rfl rfl rfl rfl ⟨rfl, rfl, rfl, rfl, rfl⟩ rfl rfl rfl rfl rfl (by kernel_rfl) Tryd.func3 (by kernel_rfl)
    (of_decide_eq_true (by kernel_rfl)) (by unfold Func.isWrapper; first | (rw [if_pos (by decide +kernel)]; kernel_rfl) | (rw [if_neg (by decide +kernel)]; exact ⟨rfl, rfl⟩))
    (fun os started H enc _ => lifted os started H enc)

theorem proved : Rows.ExprNumbersCardSaid :=
  Claim7.holds_tied_plain_at .later [] [.data, .data, .data, .widerDeep, .data, .sentinel, .sentinel] true Rows.exprNumbersCard.stood.harness Rows.exprNumbersCard.stood.looks
    over (fun _ h => by cases h) (by kernel_rfl) (fun _ h => by cases h) exprNumbers_row_tie rfl ⟨rfl, rfl⟩ (by kernel_rfl) rfl
    (fun f fn hf hfn => by
      obtain rfl : f = 3 := Option.some.inj ((show Tryd.prog.funcNamed "hansom/hansomlaw30.ExprNumbers" = some 3 by kernel_rfl).symm.trans hf) |>.symm
      obtain rfl : fn = Tryd.f3 := (Option.some.inj (Tryd.func3.symm.trans hfn)).symm
      exact ⟨by kernel_rfl, fun j t ht => by
        rw [Tryd.params3] at ht
        have hm : t ∈ [22] := by simpa using Array.mem_of_getElem? ht
        have hall : ([22].all fun u => !Tryd.prog.wantsStandIn u) = true := by kernel_rfl
        exact (show Tryd.prog.wantsStandIn t = false by simpa using List.all_eq_true.1 hall t hm)⟩)
    (by kernel_rfl)
#print axioms proved
end Go.Proofs.YtckkgooabnlooaaDoor.exprNumbers
