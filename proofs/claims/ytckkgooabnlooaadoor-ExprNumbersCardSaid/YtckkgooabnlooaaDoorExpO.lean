









/- The contract of package expr's expression: parts, joined by words that are so strong at least. No statement of the seat is proved here. -/
import Derived.Test.YtckkgooabnlooaaDoorExpN
namespace Go.Proofs.YtckkgooabnlooaaDoor
open Go.ChangeShapes Go.WideShapes Go.ChangeAt Go.RowKit
set_option linter.unusedVariables false
set_option linter.unusedSimpArgs false
set_option maxRecDepth 100000

theorem signStr_bd (s : List Int) : 0 ≤ signStrZ s ∧ signStrZ s ≤ 5 := by unfold signStrZ; repeat' split <;> omega
theorem wordStr_bd (s : List Int) : 0 ≤ wordStrZ s ∧ wordStrZ s ≤ 5 := by unfold wordStrZ; repeat' split <;> omega
theorem strength_bd (t : TokZ) : 0 ≤ strengthZ t ∧ strengthZ t ≤ 5 := by
  unfold strengthZ
  have := signStr_bd t.s
  have := wordStr_bd t.s
  split
  · assumption
  · split
    · assumption
    · exact ⟨by decide, by decide⟩
theorem strength_word {t : TokZ} (h : 1 ≤ strengthZ t) : t.s = sPLUS ∨ t.s = sMINUS ∨ wordIx t.s ≤ 13 := by
  unfold strengthZ at h
  generalize t.s = s at *
  by_cases ep : s = sPLUS
  · exact .inl ep
  by_cases em : s = sMINUS
  · exact .inr (.inl em)
  by_cases e0 : s = sSTAR
  · exact .inr (.inr (by rw [e0]; decide))
  by_cases e1 : s = sDIV
  · exact .inr (.inr (by rw [e1]; decide))
  by_cases e2 : s = sMOD
  · exact .inr (.inr (by rw [e2]; decide))
  by_cases e3 : s = sSHL
  · exact .inr (.inr (by rw [e3]; decide))
  by_cases e4 : s = sSHR
  · exact .inr (.inr (by rw [e4]; decide))
  by_cases e5 : s = sAND
  · exact .inr (.inr (by rw [e5]; decide))
  by_cases e6 : s = sOR
  · exact .inr (.inr (by rw [e6]; decide))
  by_cases e7 : s = sXOR
  · exact .inr (.inr (by rw [e7]; decide))
  by_cases e8 : s = sEQ
  · exact .inr (.inr (by rw [e8]; decide))
  by_cases e9 : s = sNE
  · exact .inr (.inr (by rw [e9]; decide))
  by_cases e10 : s = sLT
  · exact .inr (.inr (by rw [e10]; decide))
  by_cases e11 : s = sLE
  · exact .inr (.inr (by rw [e11]; decide))
  by_cases e12 : s = sGT
  · exact .inr (.inr (by rw [e12]; decide))
  by_cases e13 : s = sGE
  · exact .inr (.inr (by rw [e13]; decide))
  exfalso
  have h1 : signStrZ s = 0 := by unfold signStrZ; rw [if_neg ep, if_neg em, if_neg e0, if_neg e1]
  have h2 : wordStrZ s = 0 := by unfold wordStrZ; rw [if_neg e6, if_neg e7, if_neg e5, if_neg e8, if_neg e9, if_neg e10, if_neg e11, if_neg e12, if_neg e13, if_neg e2, if_neg e3, if_neg e4]
  rw [h1, h2] at h
  split at h
  · omega
  · split at h <;> omega
theorem run_tokS (t : TokZ) (w : World) : (Instr.field 59 (tokV t) 1).run Tryd.prog w = .ok (.string (strOfNums t.s)) w := by
  unfold tokV encTok
  simp [go_sem, Instr.field, asAgg]
theorem t_tokS {C : World → Prop} {c : Bool} {dd : Option Tmp} {ls : List Value} {ds : List Deferred} {tp : TypeId} {pos : String} {af : Array Edge} {gd : Option (Nat × Bool)} {x : Operand} {t : TokZ} (hx : EvC ls c x (tokV t)) :
    TIf Tryd.prog C c ⟨dd, .field 59 x 1, tp, pos, af, gd⟩ ⟨ls.toArray, ds⟩ (.string (strOfNums t.s)) := by
  refine ⟨fun h => .inl fun w _ => ?_⟩
  unfold execOp
  simp only [eval_of (hx.of h), Sem.run_bind, run_tokS, Result.andThen_ok, Sem.run_pure]
/-- How far the loop over words has come. -/
def ExIs (w0 : World) (gr : Nat) (tb : TabZ) (R : List RowT) (g5 g4 : Nat) (kz : Int) (n : Nat) (M : Rs PartZ) (k : Nat) (wr : World) : Prop :=
  ∃ (p : PartZ) (s : St) (v : Value), k ≤ n ∧ parseM tb k (.lo kz p) s = M ∧ Toks w0 v s.l ∧ Own w0 wr ((gr, rdr v tb s, 66) :: (g5, encPt p, 69) :: (g4, encPt zeroPart, 69) :: R)
set_option maxHeartbeats 8000000 in
theorem exE_any {w0 : World} {gr : Nat} {tb : TabZ} (n : Nat) (hA : RdOk w0 gr tb [] 40 #[.pointer (some ⟨gr, 0, none⟩)] (parseM tb n .ah))
    (hX : ∀ j, j < n → ∀ k : Int, 1 ≤ k → k ≤ 6 → RdOk w0 gr tb [] 29 #[.pointer (some ⟨gr, 0, none⟩), .int .i64 k] (parseM tb j (.ex k))) (kz : Int) (hk1 : 1 ≤ kz) :
    RdOk w0 gr tb [] 29 #[.pointer (some ⟨gr, 0, none⟩), .int .i64 kz] (parseM tb (n + 1) (.ex kz)) := by
  have HA := Lib.hid hA
  have HX := Lib.hid hX
  have HK := Lib.hid hk1
  clear hA hX hk1
  intro s v w L R hgot hS hO hd hK
  have hR := hO.lead hd
  clear hO hd hK
  rw [show parseM tb (n + 1) (.ex kz) s = andThen (parseM tb n .ah s) fun p s1 => parseM tb n (.lo kz p) s1 from rfl] at hgot ⊢
  rcases hm : parseM tb n .ah s with ⟨p, s1⟩ | e | _
  · rw [hm] at hgot
    have HM := Lib.hid hm
    clear hm
    rw [show andThen (Rs.ok p s1) (fun p s1 => parseM tb n (.lo kz p) s1) = parseM tb n (.lo kz p) s1 from rfl] at hgot ⊢
    generalize hM : parseM tb n (.lo kz p) s1 = M at hgot ⊢
    have HG := Lib.hid hgot
    have HN := Lib.hid hM
    clear hgot hM
    go_enter Tryd.func29, Tryd.ntmps29
    go_upto_region 1 with (first
    | ((with_reducible apply wpList_box hR); exact rfl; exact rfl; clear hR; intro g w hR; simp only [cS, cZ])
    | ((with_reducible apply wpList_make hR zPart); exact rfl; clear hR; intro g w hR; simp only [cS, cZ])
    | ((with_reducible apply q_ls hR); exact rfl; ((with_reducible first | apply t_part tPart) <;> (first | (focus (repeat (first | (apply EvC.gv; exact rfl; (with_reducible first | exact Imp.refl _ | (apply Imp.left; exact Imp.refl _) | (apply Imp.right; exact Imp.refl _) | (apply Imp.left; apply Imp.left; exact Imp.refl _))) | (apply EvC.now; exact rfl) | (with_reducible first | apply EvAll.cons | exact EvAll.nil))); done) | exact rfl | exact ext_part _ | (focus (repeat (first | apply List.Mem.head | apply List.Mem.tail | apply List.mem_append_right))))); (simp only [cS, cZ]; exact rfl); clear hR; intro w hR))
    generalize g = g4 at *
    go_wp2_with (first
    | ((with_reducible apply wpList_box hR); exact rfl; exact rfl; clear hR; intro g w hR; simp only [cS, cZ])
    | ((with_reducible apply wpList_make hR zPart); exact rfl; clear hR; intro g w hR; simp only [cS, cZ])
    | ((with_reducible apply q_ls hR); exact rfl; ((with_reducible first | apply t_part tPart) <;> (first | (focus (repeat (first | (apply EvC.gv; exact rfl; (with_reducible first | exact Imp.refl _ | (apply Imp.left; exact Imp.refl _) | (apply Imp.right; exact Imp.refl _) | (apply Imp.left; apply Imp.left; exact Imp.refl _))) | (apply EvC.now; exact rfl) | (with_reducible first | apply EvAll.cons | exact EvAll.nil))); done) | exact rfl | exact ext_part _ | (focus (repeat (first | apply List.Mem.head | apply List.Mem.tail | apply List.mem_append_right))))); (simp only [cS, cZ]; exact rfl); clear hR; intro w hR)
    | (go_at_call 40; refine (ansR_ok (HA.out s v _ _ _ (by rw [HM.out]; trivial) hS hR (by (focus (repeat (first | apply Del.head | apply Del.tail)))) (fun _ h => nomatch h)) HM.out).mono ?_; rintro e w' ⟨rfl, v2, hS2, hO⟩; clear hR; have hR := hO; clear hO)
    | ((with_reducible apply wpList_put hR tPart); exact rfl; exact rfl; exact rfl; (focus (repeat (first | apply List.Mem.head | apply List.Mem.tail | apply List.mem_append_right))); exact put_part _ _; exact rfl; exact Nat.le_refl 14; exact one_part _; (focus (repeat (first | apply Upd.head | apply Upd.tail))); clear hR; intro w hR))
    generalize g = g5 at *
    go_loopg [] n (ExIs w0 gr tb R g5 g4 kz n M)
    case atStart => exact ⟨p, s1, _, Nat.le_refl _, HN.out, hS2, hR.lead (by (focus (repeat (first | apply Del.head | apply Del.tail))))⟩
    case round =>
      clear hR HM HN hS2 hS
      obtain ⟨p, s, v1, hk, hpm, hS1, hR⟩ := hrel
      have hgot := HG.out
      rcases gk with _ | f
      · exfalso; rw [← hpm] at hgot; exact hgot
      have hbd := strength_bd (nextZ s)
      have hst := fun w0 => strengthE_any (t := nextZ s) (next_ok hS1) w0
      by_cases hlt : strengthZ (nextZ s) < kz
      · rw [show parseM tb (f + 1) (.lo kz p) s = .ok p s from if_pos hlt] at hpm
        have HP := Lib.hid hpm
        have HL := Lib.hid (show cmpB .lss (strengthZ (nextZ s)) kz = some true from congrArg some (decide_eq_true hlt))
        have HI := Lib.hid hst
        clear hpm hgot hst
        generalize strengthZ (nextZ s) = c at *
        clear hlt hbd
        go_wp2_with (first
    | (go_at_call 42; refine (nextE_any (hR.get (by (focus (repeat (first | apply List.Mem.head | apply List.Mem.tail | apply List.mem_append_right))))) (hS1.own hR)).mono ?_; rintro e w' ⟨rfl, hb⟩; replace hR := hR.grow hb; clear hb)
    | (go_at_call 41; refine (HI.out _).mono ?_; rintro e w' ⟨rfl, hb⟩; replace hR := hR.grow hb; clear hb)
    | ((with_reducible apply q_ls hR); exact rfl; (with_reducible apply t_cmp (op := .lss)); (apply EvC.now; exact rfl); (apply EvC.now; exact rfl); exact HL.out; (simp only [cS, cZ]; exact rfl); clear hR; intro w hR)
    | ((with_reducible apply wpList_put hR tPart); exact rfl; exact rfl; exact rfl; (focus (repeat (first | apply List.Mem.head | apply List.Mem.tail | apply List.mem_append_right))); exact put_part _ _; exact rfl; exact Nat.le_refl 14; exact one_part _; (focus (repeat (first | apply Upd.head | apply Upd.tail))); clear hR; intro w hR)
    | ((with_reducible apply q_ls hR); exact rfl; ((with_reducible first | apply t_part tPart) <;> (first | (focus (repeat (first | (apply EvC.gv; exact rfl; (with_reducible first | exact Imp.refl _ | (apply Imp.left; exact Imp.refl _) | (apply Imp.right; exact Imp.refl _) | (apply Imp.left; apply Imp.left; exact Imp.refl _))) | (apply EvC.now; exact rfl) | (with_reducible first | apply EvAll.cons | exact EvAll.nil))); done) | exact rfl | exact ext_part _ | (focus (repeat (first | apply List.Mem.head | apply List.Mem.tail | apply List.mem_append_right))))); (simp only [cS, cZ]; exact rfl); clear hR; intro w hR))
        (try simp only [Exit.inBlock, Exit.then])
        exact post_row hR rfl (by rfl) (by (focus (repeat (first | apply List.Mem.head | apply List.Mem.tail | apply List.mem_append_right)))) Tryd.underlying69 rfl iPart (by rfl) (by rfl) (AnsR.mk HP.out.symm rfl hS1 ((hR.lead (by (focus (repeat (first | apply Del.head | apply Del.tail))))).drop (List.Sublist.cons_cons _ (by (focus (repeat (with_reducible first | exact List.Sublist.slnil | exact List.nil_sublist _ | exact List.Sublist.refl _ | exact List.sublist_append_right _ _ | apply List.Sublist.cons_cons | apply List.Sublist.cons | apply sub_right)))))))
      · have hk1 := HK.out
        obtain ⟨l, d, m, i⟩ := s
        rcases l with _ | ⟨t, r⟩
        · exfalso
          have : strengthZ (nextZ ⟨[], d, m, i⟩) = 0 := rfl
          omega
        have ht : bytesOk t.s := hS1.ok t (.head _)
        have hw : t.s = sPLUS ∨ t.s = sMINUS ∨ wordIx t.s ≤ 13 := strength_word (show 1 ≤ strengthZ t from by have h2 : nextZ ⟨t :: r, d, m, i⟩ = t := rfl; rw [h2] at hlt; omega)
        rw [show parseM tb (f + 1) (.lo kz p) ⟨t :: r, d, m, i⟩ = andThen (parseM tb f (.ex (strengthZ t + 1)) ⟨r, d, m, i⟩) fun q s2 => meetR (togetherZ t.s p q) fun p' => parseM tb f (.lo kz p') s2 from if_neg hlt] at hpm
        have HL := Lib.hid (show cmpB .lss (strengthZ (nextZ ⟨t :: r, d, m, i⟩)) kz = some false from congrArg some (decide_eq_false hlt))
        rw [show nextZ ⟨t :: r, d, m, i⟩ = t from rfl] at hbd hst HL hlt
        have HI := Lib.hid hst
        clear hst
        generalize strengthZ t = c at *
        have HW := Lib.hid (show IntKind.i64.wrap (c + 1) = c + 1 from IntWalk.i64_in _ (by omega))
        rcases hm : parseM tb f (.ex (c + 1)) ⟨r, d, m, i⟩ with ⟨q, s2⟩ | e | _
        · rw [hm] at hpm
          have HM := Lib.hid hm
          clear hm
          rw [show andThen (Rs.ok q s2) (fun q s2 => meetR (togetherZ t.s p q) fun p' => parseM tb f (.lo kz p') s2) = meetR (togetherZ t.s p q) fun p' => parseM tb f (.lo kz p') s2 from rfl] at hpm
          have HT := Lib.hid (fun w0 => togetherE_any ht p q hw w0)
          cases ha : togetherZ t.s p q with
          | none =>
            rw [ha] at hpm
            have HP := Lib.hid (show M = .bad 3 from hpm.symm)
            have HZ := Lib.hid ha
            clear ha hpm hgot hlt hw ht
            go_upto_region 6 with (first
    | (go_at_call 42; refine (nextE_any (hR.get (by (focus (repeat (first | apply List.Mem.head | apply List.Mem.tail | apply List.mem_append_right))))) (hS1.own hR)).mono ?_; rintro e w' ⟨rfl, hb⟩; replace hR := hR.grow hb; clear hb)
    | (go_at_call 41; refine (HI.out _).mono ?_; rintro e w' ⟨rfl, hb⟩; replace hR := hR.grow hb; clear hb)
    | ((with_reducible apply q_ls hR); exact rfl; (with_reducible apply t_cmp (op := .lss)); (apply EvC.now; exact rfl); (apply EvC.now; exact rfl); exact HL.out; (simp only [cS, cZ]; exact rfl); clear hR; intro w hR)
    | (go_at_call 43; refine (ansR_ok (takeE_any (s := ⟨t :: r, d, m, i⟩) hS1 hR (by (focus (repeat (first | apply Del.head | apply Del.tail))))) (take_cons _ _ _ _ _)).mono ?_; rintro e w' ⟨rfl, v2, hS2, hO⟩; clear hR; have hR := hO; clear hO)
    | ((with_reducible apply q_ls hR); exact rfl; (with_reducible apply t_tokS); (apply EvC.now; exact rfl); (simp only [cS, cZ]; exact rfl); clear hR; intro w hR))
            refine wp_region_someP hR [] (List.nil_sublist _) [0, 2, 3, 4] 4 ⟨fun _ _ d _ _ h => by cases d <;> exact h⟩ (by kernel_rfl) (by kernel_rfl) (by kernel_rfl) rfl ?_
            clear hR; intro hR
            repeat (refine wpT_step rfl ?_; first
                | ((first | (with_reducible apply q_pl) | ((with_reducible apply q_gd); (first | (apply GdBy.gt; exact rfl; exact rfl) | (apply GdBy.gf; exact rfl; exact rfl) | (apply GdBy.t; exact rfl; exact rfl) | (apply GdBy.f; exact rfl; exact rfl)))); (with_reducible apply t_numE (op := .add)); (apply EvC.now; exact rfl); (apply EvC.now; exact rfl); exact rfl; exact HW.out; (simp only [cS, cZ]; exact rfl))
                | ((first | (with_reducible apply q_pl) | ((with_reducible apply q_gd); (first | (apply GdBy.gt; exact rfl; exact rfl) | (apply GdBy.gf; exact rfl; exact rfl) | (apply GdBy.t; exact rfl; exact rfl) | (apply GdBy.f; exact rfl; exact rfl)))); (first | ((with_reducible first | apply t_move | apply t_assign | apply t_and | apply t_or | apply t_cmp | apply t_not | apply t_part tPart) <;> (first | (focus (repeat (first | (apply EvC.gv; exact rfl; (with_reducible first | exact Imp.refl _ | (apply Imp.left; exact Imp.refl _) | (apply Imp.right; exact Imp.refl _) | (apply Imp.left; apply Imp.left; exact Imp.refl _))) | (apply EvC.now; exact rfl) | (with_reducible first | apply EvAll.cons | exact EvAll.nil))); done) | exact rfl | exact ext_part _ | (focus (repeat (first | apply List.Mem.head | apply List.Mem.tail | apply List.mem_append_right)))))); (simp only [cS, cZ]; exact rfl)))
            refine wpT_nil ?_
            repeat' (first
                      | (refine wpG_many hR (rs := [1, 5]) (by decide +kernel) rfl (fun w hR => ⟨?_, ?_, trivial⟩))
                      | (refine wpG_many hR (rs := [1]) (by decide +kernel) rfl (fun w hR => ⟨?_, trivial⟩))
                      | (refine wpG_many hR (rs := [5]) (by decide +kernel) rfl (fun w hR => ⟨?_, trivial⟩))
                      | (refine opQ hR rfl rfl (t_part tPart (EvC.now rfl) (by (focus (repeat (first | apply List.Mem.head | apply List.Mem.tail | apply List.mem_append_right)))) (ext_part _) rfl) (by (simp only [cS, cZ]; exact rfl)) ?_; clear hR; intro w hR; refine ⟨hR.drop (List.nil_sublist _), ?_⟩)
                      | (refine opCallOk Tryd.call29 rfl rfl rfl ((ansR_ok (HX.out f (by omega) (c + 1) (by omega) (by omega) ⟨r, d, m, i⟩ _ _ _ _ (by rw [HM.out]; trivial) hS2 hR (by (focus (repeat (first | apply Del.head | apply Del.tail)))) (fun _ h => nomatch h)) HM.out).mono ?_); rintro en w' ⟨rfl, v3, hS3, hO⟩; refine ⟨_, rfl, hO.drop (List.nil_sublist _), ?_⟩; clear hR; have hR := hO; clear hO; simp only [cS, cZ]))
            all_goals
              refine wpG_many hR (rs := [6]) (by decide +kernel) rfl (fun w hR => ⟨?_, trivial⟩)
              refine opCallBad Tryd.call44 rfl rfl rfl ((ansO_bad (HT.out _) HZ.out).mono ?_)
              rintro en w' ⟨rfl, hb⟩
              exact ⟨_, rfl, rfl, AnsR.no HP.out rfl ((hR.grow hb).drop (by (focus (repeat (with_reducible first | exact List.Sublist.slnil | exact List.nil_sublist _ | exact List.Sublist.refl _ | exact List.sublist_append_right _ _ | apply List.Sublist.cons_cons | apply List.Sublist.cons | apply sub_right)))))⟩
          | some p' =>
            rw [ha] at hpm
            have HP := Lib.hid (show parseM tb f (.lo kz p') s2 = M from hpm)
            have HZ := Lib.hid ha
            clear ha hpm hgot hlt hw ht
            go_upto_region 6 with (first
    | (go_at_call 42; refine (nextE_any (hR.get (by (focus (repeat (first | apply List.Mem.head | apply List.Mem.tail | apply List.mem_append_right))))) (hS1.own hR)).mono ?_; rintro e w' ⟨rfl, hb⟩; replace hR := hR.grow hb; clear hb)
    | (go_at_call 41; refine (HI.out _).mono ?_; rintro e w' ⟨rfl, hb⟩; replace hR := hR.grow hb; clear hb)
    | ((with_reducible apply q_ls hR); exact rfl; (with_reducible apply t_cmp (op := .lss)); (apply EvC.now; exact rfl); (apply EvC.now; exact rfl); exact HL.out; (simp only [cS, cZ]; exact rfl); clear hR; intro w hR)
    | (go_at_call 43; refine (ansR_ok (takeE_any (s := ⟨t :: r, d, m, i⟩) hS1 hR (by (focus (repeat (first | apply Del.head | apply Del.tail))))) (take_cons _ _ _ _ _)).mono ?_; rintro e w' ⟨rfl, v2, hS2, hO⟩; clear hR; have hR := hO; clear hO)
    | ((with_reducible apply q_ls hR); exact rfl; (with_reducible apply t_tokS); (apply EvC.now; exact rfl); (simp only [cS, cZ]; exact rfl); clear hR; intro w hR))
            refine wp_region_someP hR [] (List.nil_sublist _) [0, 2, 3, 4] 4 ⟨fun _ _ d _ _ h => by cases d <;> exact h⟩ (by kernel_rfl) (by kernel_rfl) (by kernel_rfl) rfl ?_
            clear hR; intro hR
            repeat (refine wpT_step rfl ?_; first
                | ((first | (with_reducible apply q_pl) | ((with_reducible apply q_gd); (first | (apply GdBy.gt; exact rfl; exact rfl) | (apply GdBy.gf; exact rfl; exact rfl) | (apply GdBy.t; exact rfl; exact rfl) | (apply GdBy.f; exact rfl; exact rfl)))); (with_reducible apply t_numE (op := .add)); (apply EvC.now; exact rfl); (apply EvC.now; exact rfl); exact rfl; exact HW.out; (simp only [cS, cZ]; exact rfl))
                | ((first | (with_reducible apply q_pl) | ((with_reducible apply q_gd); (first | (apply GdBy.gt; exact rfl; exact rfl) | (apply GdBy.gf; exact rfl; exact rfl) | (apply GdBy.t; exact rfl; exact rfl) | (apply GdBy.f; exact rfl; exact rfl)))); (first | ((with_reducible first | apply t_move | apply t_assign | apply t_and | apply t_or | apply t_cmp | apply t_not | apply t_part tPart) <;> (first | (focus (repeat (first | (apply EvC.gv; exact rfl; (with_reducible first | exact Imp.refl _ | (apply Imp.left; exact Imp.refl _) | (apply Imp.right; exact Imp.refl _) | (apply Imp.left; apply Imp.left; exact Imp.refl _))) | (apply EvC.now; exact rfl) | (with_reducible first | apply EvAll.cons | exact EvAll.nil))); done) | exact rfl | exact ext_part _ | (focus (repeat (first | apply List.Mem.head | apply List.Mem.tail | apply List.mem_append_right)))))); (simp only [cS, cZ]; exact rfl)))
            refine wpT_nil ?_
            repeat' (first
                      | (refine wpG_many hR (rs := [1, 5]) (by decide +kernel) rfl (fun w hR => ⟨?_, ?_, trivial⟩))
                      | (refine wpG_many hR (rs := [1]) (by decide +kernel) rfl (fun w hR => ⟨?_, trivial⟩))
                      | (refine wpG_many hR (rs := [5]) (by decide +kernel) rfl (fun w hR => ⟨?_, trivial⟩))
                      | (refine opQ hR rfl rfl (t_part tPart (EvC.now rfl) (by (focus (repeat (first | apply List.Mem.head | apply List.Mem.tail | apply List.mem_append_right)))) (ext_part _) rfl) (by (simp only [cS, cZ]; exact rfl)) ?_; clear hR; intro w hR; refine ⟨hR.drop (List.nil_sublist _), ?_⟩)
                      | (refine opCallOk Tryd.call29 rfl rfl rfl ((ansR_ok (HX.out f (by omega) (c + 1) (by omega) (by omega) ⟨r, d, m, i⟩ _ _ _ _ (by rw [HM.out]; trivial) hS2 hR (by (focus (repeat (first | apply Del.head | apply Del.tail)))) (fun _ h => nomatch h)) HM.out).mono ?_); rintro en w' ⟨rfl, v3, hS3, hO⟩; refine ⟨_, rfl, hO.drop (List.nil_sublist _), ?_⟩; clear hR; have hR := hO; clear hO; simp only [cS, cZ]))
            all_goals
              refine wpG_many hR (rs := [6]) (by decide +kernel) rfl (fun w hR => ⟨?_, trivial⟩)
              refine opCallOk Tryd.call44 rfl rfl rfl ((ansO_ok (HT.out _) HZ.out).mono ?_)
              rintro en w' ⟨rfl, hb⟩
              refine ⟨_, rfl, (hR.grow hb).drop (List.nil_sublist _), ?_⟩
              replace hR := hR.grow hb
              clear hb
              simp only [cS, cZ]
              refine wpG_put (c := encPt p) hR tPart (i := 7) (by kernel_rfl) rfl rfl rfl (by (focus (repeat (first | apply List.Mem.head | apply List.Mem.tail | apply List.mem_append_right)))) (put_part _ _) rfl (Nat.le_refl 14) (one_part _) (by (focus (repeat (first | apply Upd.head | apply Upd.tail)))) (List.nil_sublist _) ?_
              clear hR; intro w hR
              refine wpG_endP hR (by kernel_rfl) ?_
              clear hR; intro w hR
              go_wp2_with fail
              go_roundg f
              case measure => exact Nat.lt_succ_self f
              case rel => exact ⟨p', s2, v3, by omega, HP.out, hS3, hR⟩
        · rw [hm] at hpm
          have HM := Lib.hid hm
          have HP := Lib.hid (show M = .bad e from hpm.symm)
          clear hm hpm hgot hlt hw ht
          go_upto_region 6 with (first
    | (go_at_call 42; refine (nextE_any (hR.get (by (focus (repeat (first | apply List.Mem.head | apply List.Mem.tail | apply List.mem_append_right))))) (hS1.own hR)).mono ?_; rintro e w' ⟨rfl, hb⟩; replace hR := hR.grow hb; clear hb)
    | (go_at_call 41; refine (HI.out _).mono ?_; rintro e w' ⟨rfl, hb⟩; replace hR := hR.grow hb; clear hb)
    | ((with_reducible apply q_ls hR); exact rfl; (with_reducible apply t_cmp (op := .lss)); (apply EvC.now; exact rfl); (apply EvC.now; exact rfl); exact HL.out; (simp only [cS, cZ]; exact rfl); clear hR; intro w hR)
    | (go_at_call 43; refine (ansR_ok (takeE_any (s := ⟨t :: r, d, m, i⟩) hS1 hR (by (focus (repeat (first | apply Del.head | apply Del.tail))))) (take_cons _ _ _ _ _)).mono ?_; rintro e w' ⟨rfl, v2, hS2, hO⟩; clear hR; have hR := hO; clear hO)
    | ((with_reducible apply q_ls hR); exact rfl; (with_reducible apply t_tokS); (apply EvC.now; exact rfl); (simp only [cS, cZ]; exact rfl); clear hR; intro w hR))
          refine wp_region_someP hR [] (List.nil_sublist _) [0, 2, 3, 4] 4 ⟨fun _ _ d _ _ h => by cases d <;> exact h⟩ (by kernel_rfl) (by kernel_rfl) (by kernel_rfl) rfl ?_
          clear hR; intro hR
          repeat (refine wpT_step rfl ?_; first
              | ((first | (with_reducible apply q_pl) | ((with_reducible apply q_gd); (first | (apply GdBy.gt; exact rfl; exact rfl) | (apply GdBy.gf; exact rfl; exact rfl) | (apply GdBy.t; exact rfl; exact rfl) | (apply GdBy.f; exact rfl; exact rfl)))); (with_reducible apply t_numE (op := .add)); (apply EvC.now; exact rfl); (apply EvC.now; exact rfl); exact rfl; exact HW.out; (simp only [cS, cZ]; exact rfl))
              | ((first | (with_reducible apply q_pl) | ((with_reducible apply q_gd); (first | (apply GdBy.gt; exact rfl; exact rfl) | (apply GdBy.gf; exact rfl; exact rfl) | (apply GdBy.t; exact rfl; exact rfl) | (apply GdBy.f; exact rfl; exact rfl)))); (first | ((with_reducible first | apply t_move | apply t_assign | apply t_and | apply t_or | apply t_cmp | apply t_not | apply t_part tPart) <;> (first | (focus (repeat (first | (apply EvC.gv; exact rfl; (with_reducible first | exact Imp.refl _ | (apply Imp.left; exact Imp.refl _) | (apply Imp.right; exact Imp.refl _) | (apply Imp.left; apply Imp.left; exact Imp.refl _))) | (apply EvC.now; exact rfl) | (with_reducible first | apply EvAll.cons | exact EvAll.nil))); done) | exact rfl | exact ext_part _ | (focus (repeat (first | apply List.Mem.head | apply List.Mem.tail | apply List.mem_append_right)))))); (simp only [cS, cZ]; exact rfl)))
          refine wpT_nil ?_
          repeat' (first
                    | (refine wpG_many hR (rs := [1, 5]) (by decide +kernel) rfl (fun w hR => ⟨?_, ?_, trivial⟩))
                    | (refine wpG_many hR (rs := [1]) (by decide +kernel) rfl (fun w hR => ⟨?_, trivial⟩))
                    | (refine wpG_many hR (rs := [5]) (by decide +kernel) rfl (fun w hR => ⟨?_, trivial⟩))
                    | (refine opQ hR rfl rfl (t_part tPart (EvC.now rfl) (by (focus (repeat (first | apply List.Mem.head | apply List.Mem.tail | apply List.mem_append_right)))) (ext_part _) rfl) (by (simp only [cS, cZ]; exact rfl)) ?_; clear hR; intro w hR; refine ⟨hR.drop (List.nil_sublist _), ?_⟩)
                    | (refine opCallBad Tryd.call29 rfl rfl rfl ((ansR_bad (HX.out f (by omega) (c + 1) (by omega) (by omega) ⟨r, d, m, i⟩ _ _ _ _ (by rw [HM.out]; trivial) hS2 hR (by (focus (repeat (first | apply Del.head | apply Del.tail)))) (fun _ h => nomatch h)) HM.out).mono ?_); rintro en w' ⟨rfl, hO⟩; exact ⟨_, rfl, rfl, AnsR.no HP.out rfl (hO.drop (by (focus (repeat (with_reducible first | exact List.Sublist.slnil | exact List.nil_sublist _ | exact List.Sublist.refl _ | exact List.sublist_append_right _ _ | apply List.Sublist.cons_cons | apply List.Sublist.cons | apply sub_right)))))⟩))
        · exfalso; rw [hm] at hpm; rw [← hpm] at hgot; exact hgot
  · have HM := Lib.hid hm
    refine badR_ans ?_ rfl
    clear hm hgot
    go_enter Tryd.func29, Tryd.ntmps29
    go_wp2_with (first
    | ((with_reducible apply wpList_box hR); exact rfl; exact rfl; clear hR; intro g w hR; simp only [cS, cZ])
    | ((with_reducible apply wpList_make hR zPart); exact rfl; clear hR; intro g w hR; simp only [cS, cZ])
    | ((with_reducible apply q_ls hR); exact rfl; ((with_reducible first | apply t_part tPart) <;> (first | (focus (repeat (first | (apply EvC.gv; exact rfl; (with_reducible first | exact Imp.refl _ | (apply Imp.left; exact Imp.refl _) | (apply Imp.right; exact Imp.refl _) | (apply Imp.left; apply Imp.left; exact Imp.refl _))) | (apply EvC.now; exact rfl) | (with_reducible first | apply EvAll.cons | exact EvAll.nil))); done) | exact rfl | exact ext_part _ | (focus (repeat (first | apply List.Mem.head | apply List.Mem.tail | apply List.mem_append_right))))); (simp only [cS, cZ]; exact rfl); clear hR; intro w hR)
    | (go_at_call 40; refine (ansR_bad (HA.out s v _ _ _ (by rw [HM.out]; trivial) hS hR (by (focus (repeat (first | apply Del.head | apply Del.tail)))) (fun _ h => nomatch h)) HM.out).mono ?_; rintro e w' ⟨rfl, hO⟩; clear hR; have hR := hO; clear hO))
    exact ⟨rfl, rfl, hR.drop (by (focus (repeat (with_reducible first | exact List.Sublist.slnil | exact List.nil_sublist _ | exact List.Sublist.refl _ | exact List.sublist_append_right _ _ | apply List.Sublist.cons_cons | apply List.Sublist.cons | apply sub_right))))⟩
  · exfalso; rw [hm] at hgot; exact hgot
end Go.Proofs.YtckkgooabnlooaaDoor
