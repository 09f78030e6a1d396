/- The law ExprAny (x) returns true whatever the arguments, in a state in which the listed package-level tables hold what the program lays them with (the card ties that to its text), and each argument reads afterwards as before. There is no condition on the arguments. -/
import Derived.Test.YtckkgooabnlooaaDoorRows
import Derived.Test.YtckkgooabnlooaaDoorAnyB
import Derived.WalkKit
import Derived.ProofKit
import Derived.OpenShut
import Derived.ShutString
import Derived.ChangeOld
import Derived.Below
import Derived.Test.YtckkgooabnlooaaDoorTie
import Derived.Test.YtckkgooabnlooaaDoorCards
import Derived.Test.YtckkgooabnlooaaDoorExpTab
import Derived.SevenTiedAt
namespace Go.Proofs.YtckkgooabnlooaaDoor.exprAny
open Go.ChangeShapes Go.WideShapes Go.ChangeAt Go.RowKit
open Go.ChangeMaps (open_string shut_string)
set_option linter.unusedVariables false
set_option linter.unusedSimpArgs false

theorem own : ownKnob Tryd.prog.godebug = none := by kernel_rfl
theorem laidOut : laidOutB Tryd.prog = true := by kernel_rfl



















theorem tStrsK : SliceK Tryd.prog 23 9 1 := .of (z := .string ByteArray.empty) (b := 16) Tryd.underlying23 (by kernel_rfl) (by decide) rfl (by decide)
theorem iTokE : (Tryd.prog.info? 59).map (·.size) = some 4 := by kernel_rfl
theorem bStr0 : BuiltS Tryd.prog 23 0 [] 9 #[] := ⟨fun w => by simp [go_sem]⟩
theorem are_app {a b : List (List Int)} {s t : List TokZ} (h1 : ToksAre a s) (h2 : ToksAre b t) : ToksAre (a ++ b) (s ++ t) := by
  induction h1 with
  | nil => exact h2
  | cons h _ ih => exact .cons h ih
theorem are_rep {a : List Int} {t : TokZ} (h : TokIs a t) : ∀ k : Nat, ToksAre (List.replicate k a) (List.replicate k t)
  | 0 => .nil
  | k + 1 => .cons h (are_rep h k)
theorem deep_are (k : Nat) : ToksAre (deepW k) (deepT k) :=
  are_app (are_rep (.sign (by decide) (by decide) (by decide)) k) (.cons (.num (digs_one ⟨by decide, by decide⟩ rfl)) (are_rep (.sign (by decide) (by decide) (by decide)) k))
theorem rep_more (a : List Int) (k : Nat) (c : List (List Int)) : (c ++ List.replicate k a).flatMap cellT ++ cellT a = (c ++ List.replicate (k + 1) a).flatMap cellT := by
  rw [List.replicate_succ', ← List.append_assoc, List.flatMap_append (xs := c ++ List.replicate k a)]
  simp
def RepIs (w0 : World) (R : List RowT) (n0 m : Nat) (c : List (List Int)) (a : List Int) (vo vi : Value) (wr : World) : Prop :=
  ∃ (j : Nat) (sl : List RowT), vi = .int .i64 j ∧ j ≤ m ∧ Own w0 wr (sl ++ R) ∧ Sl 9 1 sl vo (n0 + j) ((c ++ List.replicate j a).flatMap cellT)
def EndP (p : OpdZ × Int) : Prop := p.2 = 0 ∨ (p.1 = zeroOpd ∧ (p.2 = 3 ∨ p.2 = 8))
theorem deep_at {k : Nat} (hk : k < 65) : deepOk k = true := List.all_eq_true.1 deep_all k (List.mem_range.2 hk)
structure DeepP (k : Nat) : Prop where
  got : (parseM zTab 400 (.ex 1) (startS (deepT k))).got
  way : ∃ v f, numberR (opdR (parseM zTab 400 (.ex 1) (startS (deepT k)))) = (v, f) ∧ ((f = 0 ∧ v.n = 7) ∨ (f = 8 ∧ 15 < k))
theorem deep_p {k : Nat} (hk : k < 65) : DeepP k := by
  have h := deep_at hk
  unfold deepOk at h
  simp only [Bool.and_eq_true] at h
  obtain ⟨h1, h2⟩ := h
  simp only [Bool.or_eq_true, Bool.and_eq_true, decide_eq_true_eq] at h2
  exact ⟨got_of h1, _, _, rfl, h2.1⟩
theorem castS {e : TypeId} {k n m : Nat} {s : List RowT} {v : Value} {xs ys : List Value} (h : Sl e k s v n xs) (hn : n = m) (hx : xs = ys) : Sl e k s v m ys := hn ▸ hx ▸ h
set_option maxHeartbeats 1000000 in
set_option maxRecDepth 100000 in
theorem walk {w0 : World} (v0 : Value) (hA : ToksIn w0 v0) (a1 : Int) (hw1 : (Lit.int .i64 a1).wf = true) (wi : World) (hT : Tabs w0) :
    Calls Tryd.prog 6 #[v0, .int .i64 a1] w0 fun e w' => e = .returned (.bool true) ∧ Below w0.heap.size w0 w' := by
  clear wi hw1
  obtain ⟨ts, hts⟩ := hA
  have hR := Own.start w0
  obtain ⟨k, hk, hk1, hk2⟩ : ∃ k : Nat, IntKind.i64.wrap (a1 % 64 + 1) = (k : Int) ∧ 1 ≤ k ∧ k < 65 := ⟨(a1 % 64 + 1).toNat, by rw [IntWalk.i64_in _ (by omega)]; omega, by omega, by omega⟩
  have HB := Lib.hid (show bits .and .i64 a1 63 = a1 % 64 from i64_mask a1 6 63 (by decide) (by decide))
  have HK := Lib.hid hk
  clear hk
  obtain ⟨m, hm⟩ : ∃ m, min ts.length 30 = m := ⟨_, rfl⟩
  have hm1 : m ≤ ts.length := by omega
  have HMN := Lib.hid (show (if (30 : Int) < (ts.length : Int) then (30 : Int) else (ts.length : Int)) = (m : Int) by split <;> omega)
  have hml : (ts.take m).length = m := by rw [List.length_take]; omega
  have hXT : Toks w0 (firstV v0 m) (ts.take m) := ⟨fun t ht => hts.ok t (List.mem_of_mem_take ht), by
    have h := hts.rd.first m hm1
    rw [← flat_take cellsTok_len] at h
    rw [hml]; exact h⟩
  have hl30 : (ts.take m).length ≤ 30 := by omega
  have hr := hts.rd
  clear hts hml
  go_enter Tryd.func6, Tryd.ntmps6
  go_upto_region 3 with (first
    | ((with_reducible apply q_ls hR); exact rfl; (with_reducible apply t_lenRd Tryd.underlying31); (apply EvC.now; exact rfl); exact hr; (simp only [cS, cZ]; exact rfl); clear hR; intro w hR)
    | ((with_reducible apply q_ls hR); exact rfl; (with_reducible apply t_minK); (apply EvC.now; exact rfl); (apply EvC.now; exact rfl); exact HMN.out; (simp only [cS, cZ]; exact rfl); clear hR; intro w hR)
    | ((with_reducible apply q_ls hR); exact rfl; (with_reducible apply t_firstRd (j := m) Tryd.underlying31 iTokE); (apply EvC.now; exact rfl); (apply EvC.now; exact rfl); exact hr; exact rfl; exact hm1; (simp only [cS, cZ]; exact rfl); clear hR; intro w hR)
    | (go_at_call 14; refine (tableL_any _ _).mono ?_; rintro e w' ⟨tb, rfl, hb, hTb⟩; replace hR := hR.grow hb; clear hb)
    | (go_at_call 12; (refine (operE_any (hT.own hR) hTb (hXT.own hR) 100 ((opd_end tb hl30).1)).mono ?_; rintro e w' ⟨rfl, hb⟩; replace hR := hR.grow hb; clear hb; have hEnd := show EndP _ from (opd_end tb hl30).2; generalize opdR (parseM tb 100 (.ex 1) (startS (ts.take m))) = p at hEnd ⊢; obtain ⟨o, er⟩ := p))
    | ((with_reducible apply q_ls hR); exact rfl; (with_reducible apply t_extract); (apply EvC.now; exact rfl); exact rfl; (simp only [cS, cZ]; exact rfl); clear hR; intro w hR)
    | ((with_reducible apply wpList_box hR); exact rfl; exact rfl; clear hR; intro g w hR; simp only [cS, cZ])
    | ((with_reducible apply wpList_make hR zVal); exact rfl; clear hR; intro g w hR; simp only [cS, cZ])
    | ((with_reducible apply wpList_make hR zOpd); exact rfl; clear hR; intro g w hR; simp only [cS, cZ])
    | ((with_reducible apply q_ls hR); exact rfl; ((with_reducible first | apply t_fieldO (fValO _ (by decide)) | apply t_one tIntV | apply t_part tOpd) <;> (first | (focus (repeat (first | (apply EvC.gv; exact rfl; (with_reducible first | exact Imp.refl _ | (apply Imp.left; exact Imp.refl _) | (apply Imp.right; exact Imp.refl _) | (apply Imp.left; apply Imp.left; exact Imp.refl _))) | (apply EvC.now; exact rfl) | (with_reducible first | apply EvAll.cons | exact EvAll.nil))); done) | exact rfl | exact ext_opd _ | (focus (repeat (first | apply List.Mem.head | apply List.Mem.tail | apply List.mem_append_right))))); (simp only [cS, cZ]; exact rfl); clear hR; intro w hR)
    | ((with_reducible apply wpList_put hR tVal); exact rfl; exact rfl; exact rfl; (focus (repeat (first | apply List.Mem.head | apply List.Mem.tail | apply List.mem_append_right))); exact put_val _ _; exact rfl; exact Nat.le_refl 6; exact one_val _; (focus (repeat (first | apply Upd.head | apply Upd.tail))); clear hR; intro w hR)
    | ((with_reducible apply wpList_put hR tOpd); exact rfl; exact rfl; exact rfl; (focus (repeat (first | apply List.Mem.head | apply List.Mem.tail | apply List.mem_append_right))); exact put_opd _ _; exact rfl; exact Nat.le_refl 12; exact one_opd _; (focus (repeat (first | apply Upd.head | apply Upd.tail))); clear hR; intro w hR))
  go_wp2_with (first
    | ((with_reducible apply wpList_buildS hR); exact rfl; exact rfl; (exact bStr0); clear hR; intro gs w hR; simp only [cS, cZ])
    | ((with_reducible apply q_ls hR); exact rfl; (with_reducible apply t_numE (op := .and)); (apply EvC.now; exact rfl); (apply EvC.now; exact rfl); exact rfl; exact HB.out; (simp only [cS, cZ]; exact rfl); clear hR; intro w hR)
    | ((with_reducible apply q_ls hR); exact rfl; (with_reducible apply t_numE); (apply EvC.now; exact rfl); (apply EvC.now; exact rfl); exact rfl; exact HK.out; (simp only [cS, cZ]; exact rfl); clear hR; intro w hR))
  go_loopw [8, 10] (fun vd vi wr => RepIs w0 [(g, encOp o, 41)] 0 k [] [40] vd vi wr) (fun _ vi _ => k - (intOf vi).toNat)
  case atStart => exact ⟨0, [(gs, #[], 9)], rfl, Nat.zero_le _, hR, ⟨rfl, .inr ⟨gs, 0, #[], rfl, rfl, Nat.le_refl _, Nat.zero_le _, rfl, rfl⟩⟩⟩
  case round =>
    clear hR
    obtain ⟨j, sl, rfl, hj, hR, hS⟩ := hrel
    by_cases hlt : j < k
    · have HL := Lib.hid (show cmpB .lss (j : Int) (k : Int) = some true from congrArg some (decide_eq_true (by omega)))
      go_wp2_with (first
    | ((with_reducible apply q_ls hR); exact rfl; (with_reducible apply t_cmp (op := .lss)); (apply EvC.now; exact rfl); (apply EvC.now; exact rfl); exact HL.out; (simp only [cS, cZ]; exact rfl); clear hR; intro w hR)
    | ((with_reducible apply wpList_buildS hR); exact rfl; exact rfl; (exact bStr1 _); clear hR; intro gs w hR; simp only [cS, cZ])
    | ((with_reducible apply wpList_appN hR tStrsK); exact rfl; exact rfl; exact rfl; exact hS; (exact Les.tail Les.head); (focus (repeat (first | apply List.Mem.head | apply List.Mem.tail | apply List.mem_append_right))); (exact Part.all _); (exact rfl); (exact rfl); omega; clear hR hS; intro s2 v2 w hR hS; simp only [cS, cZ]))
      go_roundw
      case rel => exact ⟨j + 1, s2, by simp, by omega, (hR.drop (List.Sublist.append (List.Sublist.refl _) (List.Sublist.cons _ (List.Sublist.refl _)))), castS hS (by omega) (rep_more [40] j [])⟩
      case measure => simp [intOf]; omega
    · have hjk : j = k := by omega
      have HL := Lib.hid (show cmpB .lss (j : Int) (k : Int) = some false from congrArg some (decide_eq_false (by omega)))
      clear hlt hj
      go_wp2_with (first
    | ((with_reducible apply q_ls hR); exact rfl; (with_reducible apply t_cmp (op := .lss)); (apply EvC.now; exact rfl); (apply EvC.now; exact rfl); exact HL.out; (simp only [cS, cZ]; exact rfl); clear hR; intro w hR)
    | ((with_reducible apply wpList_buildS hR); exact rfl; exact rfl; (exact bStr1 _); clear hR; intro gs w hR; simp only [cS, cZ])
    | ((with_reducible apply wpList_appN hR tStrsK); exact rfl; exact rfl; exact rfl; exact hS; (exact Les.tail Les.head); (focus (repeat (first | apply List.Mem.head | apply List.Mem.tail | apply List.mem_append_right))); (exact Part.all _); (exact rfl); (exact rfl); omega; clear hR hS; intro s2 v2 w hR hS; simp only [cS, cZ]))
      go_loopw [8, 11] (fun vd vi wr => RepIs w0 [(g, encOp o, 41)] (k + 1) k (List.replicate k [40] ++ [[35, 55]]) [41] vd vi wr) (fun _ vi _ => k - (intOf vi).toNat)
      case atStart =>
        refine ⟨0, s2, rfl, Nat.zero_le _, (hR.drop (List.Sublist.append (List.Sublist.refl _) (List.Sublist.cons _ (List.Sublist.refl _)))), castS hS (by omega) ?_⟩
        rw [hjk]
        simp [cellT]
        rfl
      case round =>
        clear hR hS hjk HL
        obtain ⟨j, sl, rfl, hj, hR, hS⟩ := hrel
        by_cases hlt : j < k
        · have HL := Lib.hid (show cmpB .lss (j : Int) (k : Int) = some true from congrArg some (decide_eq_true (by omega)))
          go_wp2_with (first
    | ((with_reducible apply q_ls hR); exact rfl; (with_reducible apply t_cmp (op := .lss)); (apply EvC.now; exact rfl); (apply EvC.now; exact rfl); exact HL.out; (simp only [cS, cZ]; exact rfl); clear hR; intro w hR)
    | ((with_reducible apply wpList_buildS hR); exact rfl; exact rfl; (exact bStr1 _); clear hR; intro gs w hR; simp only [cS, cZ])
    | ((with_reducible apply wpList_appN hR tStrsK); exact rfl; exact rfl; exact rfl; exact hS; (exact Les.tail Les.head); (focus (repeat (first | apply List.Mem.head | apply List.Mem.tail | apply List.mem_append_right))); (exact Part.all _); (exact rfl); (exact rfl); omega; clear hR hS; intro s2 v2 w hR hS; simp only [cS, cZ]))
          go_roundw
          case rel => exact ⟨j + 1, s2, by simp, by omega, (hR.drop (List.Sublist.append (List.Sublist.refl _) (List.Sublist.cons _ (List.Sublist.refl _)))), castS hS (by omega) (rep_more [41] j _)⟩
          case measure => simp [intOf]; omega
        · have hjk : j = k := by omega
          have HL := Lib.hid (show cmpB .lss (j : Int) (k : Int) = some false from congrArg some (decide_eq_false (by omega)))
          have hSr := (castS hS (m := (deepW k).length) (ys := (deepW k).flatMap cellT) (by simp [deepW]; omega) (by rw [hjk]; simp [deepW])).strsR (deep_are k).okS
          have HLEN := Lib.hid (show (deepW k).length ≤ 1000 by simp [deepW]; omega)
          obtain ⟨hg, v, f, hnum, hw⟩ := deep_p hk2
          clear hlt hj hjk hS
          go_upto_region 15 with (first
    | ((with_reducible apply q_ls hR); exact rfl; (with_reducible apply t_cmp (op := .lss)); (apply EvC.now; exact rfl); (apply EvC.now; exact rfl); exact HL.out; (simp only [cS, cZ]; exact rfl); clear hR; intro w hR)
    | (go_at_call 9; refine (toksE_any (deep_are k) (hSr _ _ _ hR (fun r hr => List.mem_append_left _ hr)) HLEN.out).mono ?_; rintro e w' ⟨vt, rfl, hb, hTk⟩; replace hR := hR.grow hb; clear hb)
    | ((with_reducible apply wpList_built); exact rfl; exact rfl; exact bTab0; (simp only [cS, cZ]; exact rfl))
    | (go_at_call 8; refine (numE_any (hT.own hR) (zTab_in _) hTk _ (hg)).mono ?_; rintro e w' ⟨rfl, hb⟩; replace hR := hR.grow hb; clear hb; rw [hnum])
    | ((with_reducible apply q_ls hR); exact rfl; (with_reducible apply t_extract); (apply EvC.now; exact rfl); exact rfl; (simp only [cS, cZ]; exact rfl); clear hR; intro w hR)
    | ((with_reducible apply wpList_box hR); exact rfl; exact rfl; clear hR; intro g w hR; simp only [cS, cZ])
    | ((with_reducible apply wpList_make hR zVal); exact rfl; clear hR; intro g w hR; simp only [cS, cZ])
    | ((with_reducible apply wpList_make hR zOpd); exact rfl; clear hR; intro g w hR; simp only [cS, cZ])
    | ((with_reducible apply q_ls hR); exact rfl; ((with_reducible first | apply t_fieldO (fValO _ (by decide)) | apply t_one tIntV | apply t_part tOpd) <;> (first | (focus (repeat (first | (apply EvC.gv; exact rfl; (with_reducible first | exact Imp.refl _ | (apply Imp.left; exact Imp.refl _) | (apply Imp.right; exact Imp.refl _) | (apply Imp.left; apply Imp.left; exact Imp.refl _))) | (apply EvC.now; exact rfl) | (with_reducible first | apply EvAll.cons | exact EvAll.nil))); done) | exact rfl | exact ext_opd _ | (focus (repeat (first | apply List.Mem.head | apply List.Mem.tail | apply List.mem_append_right))))); (simp only [cS, cZ]; exact rfl); clear hR; intro w hR)
    | ((with_reducible apply wpList_put hR tVal); exact rfl; exact rfl; exact rfl; (focus (repeat (first | apply List.Mem.head | apply List.Mem.tail | apply List.mem_append_right))); exact put_val _ _; exact rfl; exact Nat.le_refl 6; exact one_val _; (focus (repeat (first | apply Upd.head | apply Upd.tail))); clear hR; intro w hR)
    | ((with_reducible apply wpList_put hR tOpd); exact rfl; exact rfl; exact rfl; (focus (repeat (first | apply List.Mem.head | apply List.Mem.tail | apply List.mem_append_right))); exact put_opd _ _; exact rfl; exact Nat.le_refl 12; exact one_opd _; (focus (repeat (first | apply Upd.head | apply Upd.tail))); clear hR; intro w hR))
          rcases hEnd with he | ⟨ho, he | he⟩
          · have he' : er = 0 := he
            subst he'
            rcases hw with ⟨rfl, hv7⟩ | ⟨rfl, hk15⟩
            · have HV := Lib.hid (show cmpB .eql v.n 7 = some true from congrArg some (decide_eq_true hv7))
              by_cases hk15 : 15 < k
              · have HG := Lib.hid (show cmpB .gtr (k : Int) 15 = some true from congrArg some (decide_eq_true (by omega)))
                refine wp_region_tame hR [0, 1, 2, 3, 4, 5, 6, 7, 8, 9, 10, 11, 12, 13, 14, 15, 16, 17, 18, 19, 20, 21, 22, 23, 24, 25, 26, 27, 28, 29, 30, 31, 32, 33, 34, 35, 36, 37, 38, 39, 40, 41, 42, 43] rfl ?_
                repeat (refine wpT_step rfl ?_; first
                    | ((with_reducible apply q_kn); exact rfl; (with_reducible apply t_call Tryd.call10); (first | (focus (repeat (first | (apply EvC.gv; exact rfl; (with_reducible first | exact Imp.refl _ | (apply Imp.left; exact Imp.refl _) | (apply Imp.right; exact Imp.refl _) | (apply Imp.left; apply Imp.left; exact Imp.refl _))) | (apply EvC.now; exact rfl) | (with_reducible first | apply EvAll.cons | exact EvAll.nil))); done) | exact rfl | exact ext_opd _ | (focus (repeat (first | apply List.Mem.head | apply List.Mem.tail | apply List.mem_append_right)))); (intro hcc w hC; exact tame_below (awake_any (hT.own hC)) hC); (simp only [cS, cZ]; exact rfl))
                    | ((with_reducible apply q_kn); exact rfl; (with_reducible apply t_eql gOpd); (apply EvC.now; exact rfl); (apply EvC.now; exact rfl); exact eqO_self _; (simp only [cS, cZ]; exact rfl))
                    | ((with_reducible apply q_kn); exact rfl; (with_reducible apply t_cmp); (apply EvC.now; exact rfl); (apply EvC.now; exact rfl); (first | (with_reducible exact HG.out) | (with_reducible exact HV.out) | exact rfl); (simp only [cS, cZ]; exact rfl))
                    | ((with_reducible apply q_kn); exact rfl; (with_reducible apply t_built); exact rfl; exact bOpd0; (simp only [cS, cZ]; exact rfl))
                    | ((with_reducible apply q_kn); exact rfl; (first | ((with_reducible first | apply t_move | apply t_assign | apply t_fieldO (fValO _ (by decide)) | apply t_one tIntV | apply t_part tOpd) <;> (first | (focus (repeat (first | (apply EvC.gv; exact rfl; (with_reducible first | exact Imp.refl _ | (apply Imp.left; exact Imp.refl _) | (apply Imp.right; exact Imp.refl _) | (apply Imp.left; apply Imp.left; exact Imp.refl _))) | (apply EvC.now; exact rfl) | (with_reducible first | apply EvAll.cons | exact EvAll.nil))); done) | exact rfl | exact ext_opd _ | (focus (repeat (first | apply List.Mem.head | apply List.Mem.tail | apply List.mem_append_right))))) | ((with_reducible apply t_pick); (apply EvC.now; exact rfl); (apply EvC.now; exact rfl))); (simp only [cS, cZ]; exact rfl))
                    | ((with_reducible apply wpT1_skipL); exact rfl; (simp only [cS, cZ]; exact rfl)))
                refine wpT_nil ?_
                clear hR; intro w hR
                go_wp2_with fail
                go_ret
                exact ⟨ret_bool (by kernel_rfl), hR.below⟩
              · have HG := Lib.hid (show cmpB .gtr (k : Int) 15 = some false from congrArg some (decide_eq_false (by omega)))
                refine wp_region_tame hR [0, 1, 2, 3, 4, 5, 6, 7, 8, 9, 10, 11, 12, 13, 14, 15, 16, 17, 18, 19, 20, 21, 22, 23, 24, 25, 26, 27, 28, 29, 30, 31, 32, 33, 34, 35, 36, 37, 38, 39, 40, 41, 42, 43] rfl ?_
                repeat (refine wpT_step rfl ?_; first
                    | ((with_reducible apply q_kn); exact rfl; (with_reducible apply t_call Tryd.call10); (first | (focus (repeat (first | (apply EvC.gv; exact rfl; (with_reducible first | exact Imp.refl _ | (apply Imp.left; exact Imp.refl _) | (apply Imp.right; exact Imp.refl _) | (apply Imp.left; apply Imp.left; exact Imp.refl _))) | (apply EvC.now; exact rfl) | (with_reducible first | apply EvAll.cons | exact EvAll.nil))); done) | exact rfl | exact ext_opd _ | (focus (repeat (first | apply List.Mem.head | apply List.Mem.tail | apply List.mem_append_right)))); (intro hcc w hC; exact tame_below (awake_any (hT.own hC)) hC); (simp only [cS, cZ]; exact rfl))
                    | ((with_reducible apply q_kn); exact rfl; (with_reducible apply t_eql gOpd); (apply EvC.now; exact rfl); (apply EvC.now; exact rfl); exact eqO_self _; (simp only [cS, cZ]; exact rfl))
                    | ((with_reducible apply q_kn); exact rfl; (with_reducible apply t_cmp); (apply EvC.now; exact rfl); (apply EvC.now; exact rfl); (first | (with_reducible exact HG.out) | (with_reducible exact HV.out) | exact rfl); (simp only [cS, cZ]; exact rfl))
                    | ((with_reducible apply q_kn); exact rfl; (with_reducible apply t_built); exact rfl; exact bOpd0; (simp only [cS, cZ]; exact rfl))
                    | ((with_reducible apply q_kn); exact rfl; (first | ((with_reducible first | apply t_move | apply t_assign | apply t_fieldO (fValO _ (by decide)) | apply t_one tIntV | apply t_part tOpd) <;> (first | (focus (repeat (first | (apply EvC.gv; exact rfl; (with_reducible first | exact Imp.refl _ | (apply Imp.left; exact Imp.refl _) | (apply Imp.right; exact Imp.refl _) | (apply Imp.left; apply Imp.left; exact Imp.refl _))) | (apply EvC.now; exact rfl) | (with_reducible first | apply EvAll.cons | exact EvAll.nil))); done) | exact rfl | exact ext_opd _ | (focus (repeat (first | apply List.Mem.head | apply List.Mem.tail | apply List.mem_append_right))))) | ((with_reducible apply t_pick); (apply EvC.now; exact rfl); (apply EvC.now; exact rfl))); (simp only [cS, cZ]; exact rfl))
                    | ((with_reducible apply wpT1_skipL); exact rfl; (simp only [cS, cZ]; exact rfl)))
                refine wpT_nil ?_
                clear hR; intro w hR
                go_wp2_with fail
                go_ret
                exact ⟨ret_bool (by kernel_rfl), hR.below⟩
            · have HG := Lib.hid (show cmpB .gtr (k : Int) 15 = some true from congrArg some (decide_eq_true (by omega)))
              refine wp_region_tame hR [0, 1, 2, 3, 4, 5, 6, 7, 8, 9, 10, 11, 12, 13, 14, 15, 16, 17, 18, 19, 20, 21, 22, 23, 24, 25, 26, 27, 28, 29, 30, 31, 32, 33, 34, 35, 36, 37, 38, 39, 40, 41, 42, 43] rfl ?_
              repeat (refine wpT_step rfl ?_; first
                  | ((with_reducible apply q_kn); exact rfl; (with_reducible apply t_call Tryd.call10); (first | (focus (repeat (first | (apply EvC.gv; exact rfl; (with_reducible first | exact Imp.refl _ | (apply Imp.left; exact Imp.refl _) | (apply Imp.right; exact Imp.refl _) | (apply Imp.left; apply Imp.left; exact Imp.refl _))) | (apply EvC.now; exact rfl) | (with_reducible first | apply EvAll.cons | exact EvAll.nil))); done) | exact rfl | exact ext_opd _ | (focus (repeat (first | apply List.Mem.head | apply List.Mem.tail | apply List.mem_append_right)))); (intro hcc w hC; exact tame_below (awake_any (hT.own hC)) hC); (simp only [cS, cZ]; exact rfl))
                  | ((with_reducible apply q_kn); exact rfl; (with_reducible apply t_eql gOpd); (apply EvC.now; exact rfl); (apply EvC.now; exact rfl); exact eqO_self _; (simp only [cS, cZ]; exact rfl))
                  | ((with_reducible apply q_kn); exact rfl; (with_reducible apply t_cmp); (apply EvC.now; exact rfl); (apply EvC.now; exact rfl); (first | (with_reducible exact HG.out) | (with_reducible exact HV.out) | exact rfl); (simp only [cS, cZ]; exact rfl))
                  | ((with_reducible apply q_kn); exact rfl; (with_reducible apply t_built); exact rfl; exact bOpd0; (simp only [cS, cZ]; exact rfl))
                  | ((with_reducible apply q_kn); exact rfl; (first | ((with_reducible first | apply t_move | apply t_assign | apply t_fieldO (fValO _ (by decide)) | apply t_one tIntV | apply t_part tOpd) <;> (first | (focus (repeat (first | (apply EvC.gv; exact rfl; (with_reducible first | exact Imp.refl _ | (apply Imp.left; exact Imp.refl _) | (apply Imp.right; exact Imp.refl _) | (apply Imp.left; apply Imp.left; exact Imp.refl _))) | (apply EvC.now; exact rfl) | (with_reducible first | apply EvAll.cons | exact EvAll.nil))); done) | exact rfl | exact ext_opd _ | (focus (repeat (first | apply List.Mem.head | apply List.Mem.tail | apply List.mem_append_right))))) | ((with_reducible apply t_pick); (apply EvC.now; exact rfl); (apply EvC.now; exact rfl))); (simp only [cS, cZ]; exact rfl))
                  | ((with_reducible apply wpT1_skipL); exact rfl; (simp only [cS, cZ]; exact rfl)))
              refine wpT_nil ?_
              clear hR; intro w hR
              go_wp2_with fail
              go_ret
              exact ⟨ret_bool (by kernel_rfl), hR.below⟩
          · have he' : er = 3 := he
            have ho' : o = zeroOpd := ho
            subst he' ho'
            rcases hw with ⟨rfl, hv7⟩ | ⟨rfl, hk15⟩
            · have HV := Lib.hid (show cmpB .eql v.n 7 = some true from congrArg some (decide_eq_true hv7))
              by_cases hk15 : 15 < k
              · have HG := Lib.hid (show cmpB .gtr (k : Int) 15 = some true from congrArg some (decide_eq_true (by omega)))
                refine wp_region_tame hR [0, 1, 2, 3, 4, 5, 6, 7, 8, 9, 10, 11, 12, 13, 14, 15, 16, 17, 18, 19, 20, 21, 22, 23, 24, 25, 26, 27, 28, 29, 30, 31, 32, 33, 34, 35, 36, 37, 38, 39, 40, 41, 42, 43] rfl ?_
                repeat (refine wpT_step rfl ?_; first
                    | ((with_reducible apply q_kn); exact rfl; (with_reducible apply t_call Tryd.call10); (first | (focus (repeat (first | (apply EvC.gv; exact rfl; (with_reducible first | exact Imp.refl _ | (apply Imp.left; exact Imp.refl _) | (apply Imp.right; exact Imp.refl _) | (apply Imp.left; apply Imp.left; exact Imp.refl _))) | (apply EvC.now; exact rfl) | (with_reducible first | apply EvAll.cons | exact EvAll.nil))); done) | exact rfl | exact ext_opd _ | (focus (repeat (first | apply List.Mem.head | apply List.Mem.tail | apply List.mem_append_right)))); (intro hcc w hC; exact tame_below (awake_any (hT.own hC)) hC); (simp only [cS, cZ]; exact rfl))
                    | ((with_reducible apply q_kn); exact rfl; (with_reducible apply t_eql gOpd); (apply EvC.now; exact rfl); (apply EvC.now; exact rfl); exact eqO_self _; (simp only [cS, cZ]; exact rfl))
                    | ((with_reducible apply q_kn); exact rfl; (with_reducible apply t_cmp); (apply EvC.now; exact rfl); (apply EvC.now; exact rfl); (first | (with_reducible exact HG.out) | (with_reducible exact HV.out) | exact rfl); (simp only [cS, cZ]; exact rfl))
                    | ((with_reducible apply q_kn); exact rfl; (with_reducible apply t_built); exact rfl; exact bOpd0; (simp only [cS, cZ]; exact rfl))
                    | ((with_reducible apply q_kn); exact rfl; (first | ((with_reducible first | apply t_move | apply t_assign | apply t_fieldO (fValO _ (by decide)) | apply t_one tIntV | apply t_part tOpd) <;> (first | (focus (repeat (first | (apply EvC.gv; exact rfl; (with_reducible first | exact Imp.refl _ | (apply Imp.left; exact Imp.refl _) | (apply Imp.right; exact Imp.refl _) | (apply Imp.left; apply Imp.left; exact Imp.refl _))) | (apply EvC.now; exact rfl) | (with_reducible first | apply EvAll.cons | exact EvAll.nil))); done) | exact rfl | exact ext_opd _ | (focus (repeat (first | apply List.Mem.head | apply List.Mem.tail | apply List.mem_append_right))))) | ((with_reducible apply t_pick); (apply EvC.now; exact rfl); (apply EvC.now; exact rfl))); (simp only [cS, cZ]; exact rfl))
                    | ((with_reducible apply wpT1_skipL); exact rfl; (simp only [cS, cZ]; exact rfl)))
                refine wpT_nil ?_
                clear hR; intro w hR
                go_wp2_with fail
                go_ret
                exact ⟨ret_bool (by kernel_rfl), hR.below⟩
              · have HG := Lib.hid (show cmpB .gtr (k : Int) 15 = some false from congrArg some (decide_eq_false (by omega)))
                refine wp_region_tame hR [0, 1, 2, 3, 4, 5, 6, 7, 8, 9, 10, 11, 12, 13, 14, 15, 16, 17, 18, 19, 20, 21, 22, 23, 24, 25, 26, 27, 28, 29, 30, 31, 32, 33, 34, 35, 36, 37, 38, 39, 40, 41, 42, 43] rfl ?_
                repeat (refine wpT_step rfl ?_; first
                    | ((with_reducible apply q_kn); exact rfl; (with_reducible apply t_call Tryd.call10); (first | (focus (repeat (first | (apply EvC.gv; exact rfl; (with_reducible first | exact Imp.refl _ | (apply Imp.left; exact Imp.refl _) | (apply Imp.right; exact Imp.refl _) | (apply Imp.left; apply Imp.left; exact Imp.refl _))) | (apply EvC.now; exact rfl) | (with_reducible first | apply EvAll.cons | exact EvAll.nil))); done) | exact rfl | exact ext_opd _ | (focus (repeat (first | apply List.Mem.head | apply List.Mem.tail | apply List.mem_append_right)))); (intro hcc w hC; exact tame_below (awake_any (hT.own hC)) hC); (simp only [cS, cZ]; exact rfl))
                    | ((with_reducible apply q_kn); exact rfl; (with_reducible apply t_eql gOpd); (apply EvC.now; exact rfl); (apply EvC.now; exact rfl); exact eqO_self _; (simp only [cS, cZ]; exact rfl))
                    | ((with_reducible apply q_kn); exact rfl; (with_reducible apply t_cmp); (apply EvC.now; exact rfl); (apply EvC.now; exact rfl); (first | (with_reducible exact HG.out) | (with_reducible exact HV.out) | exact rfl); (simp only [cS, cZ]; exact rfl))
                    | ((with_reducible apply q_kn); exact rfl; (with_reducible apply t_built); exact rfl; exact bOpd0; (simp only [cS, cZ]; exact rfl))
                    | ((with_reducible apply q_kn); exact rfl; (first | ((with_reducible first | apply t_move | apply t_assign | apply t_fieldO (fValO _ (by decide)) | apply t_one tIntV | apply t_part tOpd) <;> (first | (focus (repeat (first | (apply EvC.gv; exact rfl; (with_reducible first | exact Imp.refl _ | (apply Imp.left; exact Imp.refl _) | (apply Imp.right; exact Imp.refl _) | (apply Imp.left; apply Imp.left; exact Imp.refl _))) | (apply EvC.now; exact rfl) | (with_reducible first | apply EvAll.cons | exact EvAll.nil))); done) | exact rfl | exact ext_opd _ | (focus (repeat (first | apply List.Mem.head | apply List.Mem.tail | apply List.mem_append_right))))) | ((with_reducible apply t_pick); (apply EvC.now; exact rfl); (apply EvC.now; exact rfl))); (simp only [cS, cZ]; exact rfl))
                    | ((with_reducible apply wpT1_skipL); exact rfl; (simp only [cS, cZ]; exact rfl)))
                refine wpT_nil ?_
                clear hR; intro w hR
                go_wp2_with fail
                go_ret
                exact ⟨ret_bool (by kernel_rfl), hR.below⟩
            · have HG := Lib.hid (show cmpB .gtr (k : Int) 15 = some true from congrArg some (decide_eq_true (by omega)))
              refine wp_region_tame hR [0, 1, 2, 3, 4, 5, 6, 7, 8, 9, 10, 11, 12, 13, 14, 15, 16, 17, 18, 19, 20, 21, 22, 23, 24, 25, 26, 27, 28, 29, 30, 31, 32, 33, 34, 35, 36, 37, 38, 39, 40, 41, 42, 43] rfl ?_
              repeat (refine wpT_step rfl ?_; first
                  | ((with_reducible apply q_kn); exact rfl; (with_reducible apply t_call Tryd.call10); (first | (focus (repeat (first | (apply EvC.gv; exact rfl; (with_reducible first | exact Imp.refl _ | (apply Imp.left; exact Imp.refl _) | (apply Imp.right; exact Imp.refl _) | (apply Imp.left; apply Imp.left; exact Imp.refl _))) | (apply EvC.now; exact rfl) | (with_reducible first | apply EvAll.cons | exact EvAll.nil))); done) | exact rfl | exact ext_opd _ | (focus (repeat (first | apply List.Mem.head | apply List.Mem.tail | apply List.mem_append_right)))); (intro hcc w hC; exact tame_below (awake_any (hT.own hC)) hC); (simp only [cS, cZ]; exact rfl))
                  | ((with_reducible apply q_kn); exact rfl; (with_reducible apply t_eql gOpd); (apply EvC.now; exact rfl); (apply EvC.now; exact rfl); exact eqO_self _; (simp only [cS, cZ]; exact rfl))
                  | ((with_reducible apply q_kn); exact rfl; (with_reducible apply t_cmp); (apply EvC.now; exact rfl); (apply EvC.now; exact rfl); (first | (with_reducible exact HG.out) | (with_reducible exact HV.out) | exact rfl); (simp only [cS, cZ]; exact rfl))
                  | ((with_reducible apply q_kn); exact rfl; (with_reducible apply t_built); exact rfl; exact bOpd0; (simp only [cS, cZ]; exact rfl))
                  | ((with_reducible apply q_kn); exact rfl; (first | ((with_reducible first | apply t_move | apply t_assign | apply t_fieldO (fValO _ (by decide)) | apply t_one tIntV | apply t_part tOpd) <;> (first | (focus (repeat (first | (apply EvC.gv; exact rfl; (with_reducible first | exact Imp.refl _ | (apply Imp.left; exact Imp.refl _) | (apply Imp.right; exact Imp.refl _) | (apply Imp.left; apply Imp.left; exact Imp.refl _))) | (apply EvC.now; exact rfl) | (with_reducible first | apply EvAll.cons | exact EvAll.nil))); done) | exact rfl | exact ext_opd _ | (focus (repeat (first | apply List.Mem.head | apply List.Mem.tail | apply List.mem_append_right))))) | ((with_reducible apply t_pick); (apply EvC.now; exact rfl); (apply EvC.now; exact rfl))); (simp only [cS, cZ]; exact rfl))
                  | ((with_reducible apply wpT1_skipL); exact rfl; (simp only [cS, cZ]; exact rfl)))
              refine wpT_nil ?_
              clear hR; intro w hR
              go_wp2_with fail
              go_ret
              exact ⟨ret_bool (by kernel_rfl), hR.below⟩
          · have he' : er = 8 := he
            have ho' : o = zeroOpd := ho
            subst he' ho'
            rcases hw with ⟨rfl, hv7⟩ | ⟨rfl, hk15⟩
            · have HV := Lib.hid (show cmpB .eql v.n 7 = some true from congrArg some (decide_eq_true hv7))
              by_cases hk15 : 15 < k
              · have HG := Lib.hid (show cmpB .gtr (k : Int) 15 = some true from congrArg some (decide_eq_true (by omega)))
                refine wp_region_tame hR [0, 1, 2, 3, 4, 5, 6, 7, 8, 9, 10, 11, 12, 13, 14, 15, 16, 17, 18, 19, 20, 21, 22, 23, 24, 25, 26, 27, 28, 29, 30, 31, 32, 33, 34, 35, 36, 37, 38, 39, 40, 41, 42, 43] rfl ?_
                repeat (refine wpT_step rfl ?_; first
                    | ((with_reducible apply q_kn); exact rfl; (with_reducible apply t_call Tryd.call10); (first | (focus (repeat (first | (apply EvC.gv; exact rfl; (with_reducible first | exact Imp.refl _ | (apply Imp.left; exact Imp.refl _) | (apply Imp.right; exact Imp.refl _) | (apply Imp.left; apply Imp.left; exact Imp.refl _))) | (apply EvC.now; exact rfl) | (with_reducible first | apply EvAll.cons | exact EvAll.nil))); done) | exact rfl | exact ext_opd _ | (focus (repeat (first | apply List.Mem.head | apply List.Mem.tail | apply List.mem_append_right)))); (intro hcc w hC; exact tame_below (awake_any (hT.own hC)) hC); (simp only [cS, cZ]; exact rfl))
                    | ((with_reducible apply q_kn); exact rfl; (with_reducible apply t_eql gOpd); (apply EvC.now; exact rfl); (apply EvC.now; exact rfl); exact eqO_self _; (simp only [cS, cZ]; exact rfl))
                    | ((with_reducible apply q_kn); exact rfl; (with_reducible apply t_cmp); (apply EvC.now; exact rfl); (apply EvC.now; exact rfl); (first | (with_reducible exact HG.out) | (with_reducible exact HV.out) | exact rfl); (simp only [cS, cZ]; exact rfl))
                    | ((with_reducible apply q_kn); exact rfl; (with_reducible apply t_built); exact rfl; exact bOpd0; (simp only [cS, cZ]; exact rfl))
                    | ((with_reducible apply q_kn); exact rfl; (first | ((with_reducible first | apply t_move | apply t_assign | apply t_fieldO (fValO _ (by decide)) | apply t_one tIntV | apply t_part tOpd) <;> (first | (focus (repeat (first | (apply EvC.gv; exact rfl; (with_reducible first | exact Imp.refl _ | (apply Imp.left; exact Imp.refl _) | (apply Imp.right; exact Imp.refl _) | (apply Imp.left; apply Imp.left; exact Imp.refl _))) | (apply EvC.now; exact rfl) | (with_reducible first | apply EvAll.cons | exact EvAll.nil))); done) | exact rfl | exact ext_opd _ | (focus (repeat (first | apply List.Mem.head | apply List.Mem.tail | apply List.mem_append_right))))) | ((with_reducible apply t_pick); (apply EvC.now; exact rfl); (apply EvC.now; exact rfl))); (simp only [cS, cZ]; exact rfl))
                    | ((with_reducible apply wpT1_skipL); exact rfl; (simp only [cS, cZ]; exact rfl)))
                refine wpT_nil ?_
                clear hR; intro w hR
                go_wp2_with fail
                go_ret
                exact ⟨ret_bool (by kernel_rfl), hR.below⟩
              · have HG := Lib.hid (show cmpB .gtr (k : Int) 15 = some false from congrArg some (decide_eq_false (by omega)))
                refine wp_region_tame hR [0, 1, 2, 3, 4, 5, 6, 7, 8, 9, 10, 11, 12, 13, 14, 15, 16, 17, 18, 19, 20, 21, 22, 23, 24, 25, 26, 27, 28, 29, 30, 31, 32, 33, 34, 35, 36, 37, 38, 39, 40, 41, 42, 43] rfl ?_
                repeat (refine wpT_step rfl ?_; first
                    | ((with_reducible apply q_kn); exact rfl; (with_reducible apply t_call Tryd.call10); (first | (focus (repeat (first | (apply EvC.gv; exact rfl; (with_reducible first | exact Imp.refl _ | (apply Imp.left; exact Imp.refl _) | (apply Imp.right; exact Imp.refl _) | (apply Imp.left; apply Imp.left; exact Imp.refl _))) | (apply EvC.now; exact rfl) | (with_reducible first | apply EvAll.cons | exact EvAll.nil))); done) | exact rfl | exact ext_opd _ | (focus (repeat (first | apply List.Mem.head | apply List.Mem.tail | apply List.mem_append_right)))); (intro hcc w hC; exact tame_below (awake_any (hT.own hC)) hC); (simp only [cS, cZ]; exact rfl))
                    | ((with_reducible apply q_kn); exact rfl; (with_reducible apply t_eql gOpd); (apply EvC.now; exact rfl); (apply EvC.now; exact rfl); exact eqO_self _; (simp only [cS, cZ]; exact rfl))
                    | ((with_reducible apply q_kn); exact rfl; (with_reducible apply t_cmp); (apply EvC.now; exact rfl); (apply EvC.now; exact rfl); (first | (with_reducible exact HG.out) | (with_reducible exact HV.out) | exact rfl); (simp only [cS, cZ]; exact rfl))
                    | ((with_reducible apply q_kn); exact rfl; (with_reducible apply t_built); exact rfl; exact bOpd0; (simp only [cS, cZ]; exact rfl))
                    | ((with_reducible apply q_kn); exact rfl; (first | ((with_reducible first | apply t_move | apply t_assign | apply t_fieldO (fValO _ (by decide)) | apply t_one tIntV | apply t_part tOpd) <;> (first | (focus (repeat (first | (apply EvC.gv; exact rfl; (with_reducible first | exact Imp.refl _ | (apply Imp.left; exact Imp.refl _) | (apply Imp.right; exact Imp.refl _) | (apply Imp.left; apply Imp.left; exact Imp.refl _))) | (apply EvC.now; exact rfl) | (with_reducible first | apply EvAll.cons | exact EvAll.nil))); done) | exact rfl | exact ext_opd _ | (focus (repeat (first | apply List.Mem.head | apply List.Mem.tail | apply List.mem_append_right))))) | ((with_reducible apply t_pick); (apply EvC.now; exact rfl); (apply EvC.now; exact rfl))); (simp only [cS, cZ]; exact rfl))
                    | ((with_reducible apply wpT1_skipL); exact rfl; (simp only [cS, cZ]; exact rfl)))
                refine wpT_nil ?_
                clear hR; intro w hR
                go_wp2_with fail
                go_ret
                exact ⟨ret_bool (by kernel_rfl), hR.below⟩
            · have HG := Lib.hid (show cmpB .gtr (k : Int) 15 = some true from congrArg some (decide_eq_true (by omega)))
              refine wp_region_tame hR [0, 1, 2, 3, 4, 5, 6, 7, 8, 9, 10, 11, 12, 13, 14, 15, 16, 17, 18, 19, 20, 21, 22, 23, 24, 25, 26, 27, 28, 29, 30, 31, 32, 33, 34, 35, 36, 37, 38, 39, 40, 41, 42, 43] rfl ?_
              repeat (refine wpT_step rfl ?_; first
                  | ((with_reducible apply q_kn); exact rfl; (with_reducible apply t_call Tryd.call10); (first | (focus (repeat (first | (apply EvC.gv; exact rfl; (with_reducible first | exact Imp.refl _ | (apply Imp.left; exact Imp.refl _) | (apply Imp.right; exact Imp.refl _) | (apply Imp.left; apply Imp.left; exact Imp.refl _))) | (apply EvC.now; exact rfl) | (with_reducible first | apply EvAll.cons | exact EvAll.nil))); done) | exact rfl | exact ext_opd _ | (focus (repeat (first | apply List.Mem.head | apply List.Mem.tail | apply List.mem_append_right)))); (intro hcc w hC; exact tame_below (awake_any (hT.own hC)) hC); (simp only [cS, cZ]; exact rfl))
                  | ((with_reducible apply q_kn); exact rfl; (with_reducible apply t_eql gOpd); (apply EvC.now; exact rfl); (apply EvC.now; exact rfl); exact eqO_self _; (simp only [cS, cZ]; exact rfl))
                  | ((with_reducible apply q_kn); exact rfl; (with_reducible apply t_cmp); (apply EvC.now; exact rfl); (apply EvC.now; exact rfl); (first | (with_reducible exact HG.out) | (with_reducible exact HV.out) | exact rfl); (simp only [cS, cZ]; exact rfl))
                  | ((with_reducible apply q_kn); exact rfl; (with_reducible apply t_built); exact rfl; exact bOpd0; (simp only [cS, cZ]; exact rfl))
                  | ((with_reducible apply q_kn); exact rfl; (first | ((with_reducible first | apply t_move | apply t_assign | apply t_fieldO (fValO _ (by decide)) | apply t_one tIntV | apply t_part tOpd) <;> (first | (focus (repeat (first | (apply EvC.gv; exact rfl; (with_reducible first | exact Imp.refl _ | (apply Imp.left; exact Imp.refl _) | (apply Imp.right; exact Imp.refl _) | (apply Imp.left; apply Imp.left; exact Imp.refl _))) | (apply EvC.now; exact rfl) | (with_reducible first | apply EvAll.cons | exact EvAll.nil))); done) | exact rfl | exact ext_opd _ | (focus (repeat (first | apply List.Mem.head | apply List.Mem.tail | apply List.mem_append_right))))) | ((with_reducible apply t_pick); (apply EvC.now; exact rfl); (apply EvC.now; exact rfl))); (simp only [cS, cZ]; exact rfl))
                  | ((with_reducible apply wpT1_skipL); exact rfl; (simp only [cS, cZ]; exact rfl)))
              refine wpT_nil ?_
              clear hR; intro w hR
              go_wp2_with fail
              go_ret
              exact ⟨ret_bool (by kernel_rfl), hR.below⟩

set_option maxRecDepth 100000 in
theorem lifted (os : Os) (started : os.Started) (H : Type) (enc : TypeId × Value → H) :
    ReturnsInHanded {} Tryd.checked os 6 .any (fun w args => (Rows.exprAnySpec.pre enc Tryd.prog Tryd.f6 [] false w args ∧ laidMetH Tryd.prog laid2 w) ∧ sizedMet enc Tryd.prog Tryd.f6 (OpenSpec.ofChange Rows.exprAnySpec) false w args)
      (Rows.exprAnySpec.post enc Tryd.prog Tryd.f6 false true false false) := by
  refine returnsInHanded_of_change_and (C := Tryd.checked) (X := fun w _ => laidMetH Tryd.prog laid2 w) (fun _ _ _ hh h => h.of_heap hh) own started (by kernel_rfl) Tryd.func6
    (ChangeSpec.witness_shaped (enc := enc) (C := Tryd.checked) (os := os) (X := fun w _ => laidMetH Tryd.prog laid2 w) false (World.doorLaid Tryd.prog 400 os) #[.slice none 0 0, .int .i64 0] 8 rfl (World.shaped_of_RefB (by kernel_rfl) (by kernel_rfl)) (by kernel_rfl) (by kernel_rfl) (by kernel_rfl) (door_met os _)) ?_
  intro W base args ds gs before hval0 hW _ _ hL _
  have hval : ∀ (j : Nat) t v, Tryd.f6.params[j]? = some t → args[j]? = some v → Value.okWide Tryd.prog W .any base t v := hval0
  have hW' := hW
  obtain ⟨p, q, hA0, hV, rfl, hfz, hnd⟩ := hW
  have hA : DataW.TrodAll enc Tryd.prog W 0 (fun _ => true) true Tryd.f6.params.toList args.toList ds p := hA0
  rw [Tryd.params6] at hA hval
  obtain ⟨v0, vs0, d0, ds0, p0, q0, hargs, rfl, rfl, h0, r0⟩ := trodAll_cons hA
  obtain ⟨v1, vs1, d1, ds1, p1, q1, rfl, rfl, rfl, h1, r1⟩ := trodAll_cons r0
  obtain ⟨rfl, rfl, rfl⟩ := trodAll_nil r1
  obtain rfl : args = #[v0, v1] := by cases args; simp_all
  obtain ⟨rfl, rfl⟩ := trodVars_none hV
  have k0 := h0
  have lt0 : ∀ x ∈ p0, x.block < W.heap.size := by obtain ⟨m, hm⟩ := k0; exact DataW.trod_lt m _ _ _ hm
  have o0 := open_toks (hval 0 31 v0 rfl rfl) h0
  obtain ⟨a1, rfl, rfl, rfl, w1⟩ := open_int Tryd.underlying3 (hval 1 3 v1 rfl rfl) h1
  clear hA0 hval0
  refine (walk v0 o0 a1 w1 W (of_laid hL)).mono fun e W' ⟨he, bel⟩ => ?_
  subst he
  exact ⟨_, rfl, _, _, _, [], _, [], hW', trodAll_mk1 (shut_bool Tryd.underlying4 _), (trodAll_cons_mk (Below.trod laidOut (by kernel_rfl) (of_decide_eq_true (by kernel_rfl)) k0 bel lt0) (trodAll_cons_mk (shut_int Tryd.underlying3 w1) trodAll_mk0)), rfl, bel.frame _, fun h => by cases h⟩

theorem over : Rows.exprAnyRow.holds Tryd.pinned (OpenSpec.ofChange Rows.exprAnySpec) :=
  OpenClaim.holds_of_wide 6 Tryd.f6 rfl rfl rfl rfl rfl rfl rfl ⟨rfl, rfl, rfl, rfl, rfl⟩ rfl rfl rfl rfl rfl (by kernel_rfl) Tryd.func6 (by kernel_rfl)
    (of_decide_eq_true (by kernel_rfl)) (by unfold Func.isWrapper; first | (rw [if_pos (by decide +kernel)]; kernel_rfl) | (rw [if_neg (by decide +kernel)]; exact ⟨rfl, rfl⟩))
    (fun os started H enc _ => lifted os started H enc)

theorem proved : Rows.ExprAnyCardSaid :=
  Claim7.holds_tied_plain_at .later [] [.data, .data, .data, .widerDeep, .data, .sentinel, .sentinel] true Rows.exprAnyCard.stood.harness Rows.exprAnyCard.stood.looks
    over (fun _ h => by cases h) (by kernel_rfl) (fun _ h => by cases h) exprAny_row_tie rfl ⟨rfl, rfl⟩ (by kernel_rfl) rfl
    (fun f fn hf hfn => by
      obtain rfl : f = 6 := Option.some.inj ((show Tryd.prog.funcNamed "hansom/hansomlaw30.ExprAny" = some 6 by kernel_rfl).symm.trans hf) |>.symm
      obtain rfl : fn = Tryd.f6 := (Option.some.inj (Tryd.func6.symm.trans hfn)).symm
      exact ⟨by kernel_rfl, fun j t ht => by
        rw [Tryd.params6] at ht
        have hm : t ∈ [31, 3] := by simpa using Array.mem_of_getElem? ht
        have hall : ([31, 3].all fun u => !Tryd.prog.wantsStandIn u) = true := by kernel_rfl
        exact (show Tryd.prog.wantsStandIn t = false by simpa using List.all_eq_true.1 hall t hm)⟩)
    (by kernel_rfl)
#print axioms proved
end Go.Proofs.YtckkgooabnlooaaDoor.exprAny
