









/- The contract of line.Split. No statement of the seat is proved here. -/
import Derived.Test.YtjecckmcjcikdaaDoorLinA
namespace Go.Proofs.YtjecckmcjcikdaaDoor
open Go.ChangeShapes Go.WideShapes Go.ChangeAt Go.RowKit
set_option linter.unusedVariables false
set_option linter.unusedSimpArgs false
set_option maxRecDepth 100000

theorem bParts1 (p : Option Addr) (n c : Nat) : BuiltS Tryd.prog 24 1 [(0, .slice p n c)] 31 #[.slice p n c] := ⟨fun w => by simp [go_sem]⟩
theorem Sl.shape {e : TypeId} {k m : Nat} {s : List RowT} {v : Value} {ys : List Value} (h : Sl e k s v m ys) : ∃ p n c, v = .slice p n c := by
  rcases h.way with ⟨_, rfl, _⟩ | ⟨g, cap, cur, _, rfl, _⟩
  · exact ⟨_, _, _, rfl⟩
  · exact ⟨_, _, _, rfl⟩
theorem rd_val {w0 w : World} {l : List RowT} {g : Nat} {u : Value} (h : u.oneCell' = true) (hR : Own w0 w l) (hm : (g, #[u], 31) ∈ l) : Rd w 1 (.slice (some ⟨g, 0, none⟩) 1 1) 1 [u] := by
  have hS : Sl 31 1 [(g, #[u], 31)] (.slice (some ⟨g, 0, none⟩) 1 1) 1 [u] := (RwIs.all (n := 1) (k := 1) rfl (by decide)).sl
  exact hS.rd hR (fun x hx => by rw [List.mem_singleton.1 hx]; exact hm) (by simp [h])
theorem split_cons (n : Nat) (cur : List TokZ) (t : TokZ) (r : List TokZ) : splitGo n cur (t :: r) = if deepZ n t = 0 ∧ signT t sCOMMA = true then cur :: splitGo (deepZ n t) [] r else splitGo (deepZ n t) (cur ++ [t]) r := rfl
theorem splitZ_ne {l : List TokZ} (h : l ≠ []) : splitZ l = splitGo 0 [] l := by
  cases l with
  | nil => exact absurd rfl h
  | cons t r => rfl
theorem split_len : ∀ (l : List TokZ) (n : Nat) (cur : List TokZ), (splitGo n cur l).length ≤ l.length + 1
  | [], n, cur => Nat.le_refl _
  | t :: r, n, cur => by
    rw [split_cons]
    have h1 := split_len r (deepZ n t) []
    have h2 := split_len r (deepZ n t) (cur ++ [t])
    split
    · simp only [List.length_cons]; omega
    · simp only [List.length_cons]; omega
theorem mid_more {l : List TokZ} {f k : Nat} {t : TokZ} (hf : f ≤ k) (h : l[k]? = some t) : (l.drop f).take (k - f) ++ [t] = (l.drop f).take (k + 1 - f) := by
  have : (l.drop f)[k - f]? = some t := by rw [List.getElem?_drop, show f + (k - f) = k by omega]; exact h
  rw [show k + 1 - f = k - f + 1 by omega, List.take_add_one, this]
  rfl
/-- The loop over the pieces. -/
def SplIs (w0 : World) (l : List TokZ) (vo vf vn vi : Value) (wr : World) : Prop :=
  ∃ (k f n : Nat) (so si : List RowT) (ps : List (List TokZ)), vi = .int .i64 k ∧ k ≤ l.length ∧ vf = .int .i64 f ∧ f ≤ k ∧ vn = .int .i64 n ∧ n ≤ k ∧ Own w0 wr (so ++ si) ∧ PSl so si vo ps ∧ ps.length ≤ k ∧ ps ++ splitGo n ((l.drop f).take (k - f)) (l.drop k) = splitZ l
set_option maxHeartbeats 2000000 in
theorem splitL_any {w0 : World} {v : Value} {l : List TokZ} (hT : TokL w0 v l) (hl : l.length ≤ 100000) : Calls Tryd.prog 11 #[v] w0 fun e w' => ∃ s v', e = .returned v' ∧ Own w0 w' s ∧ PartsR s v' (splitZ l) := by
  have hR := Own.start w0
  have hrd := hT.rd
  by_cases hne : l = []
  · subst hne
    unfold RowsAt at hrd
    go_enter Tryd.func11, Tryd.ntmps11
    go_wp2_with (first
    | ((with_reducible apply q_ls hR); exact rfl; (with_reducible apply t_lenRd Tryd.underlying31); (apply EvC.now; exact rfl); exact hrd; (simp only [List.set_cons_succ, List.set_cons_zero]; exact rfl); clear hR; intro w hR))
    go_ret
    exact ⟨[], _, rfl, hR, fun _ w _ _ _ => PartsAt.none w⟩
  obtain ⟨t0, ht0⟩ : ∃ t0, l[0]? = some t0 := ⟨_, List.getElem?_eq_getElem (List.length_pos_iff.2 hne)⟩
  obtain ⟨_, a, cap, rfl, _⟩ := hT.el ht0
  have hpos := List.length_pos_iff.2 hne
  have HZ := Lib.hid (show cmpB .eql (l.length : Int) 0 = some false from congrArg some (decide_eq_false (by omega)))
  have hgo := splitZ_ne hne
  clear ht0
  go_enter Tryd.func11, Tryd.ntmps11
  go_wp2_with (first
    | ((with_reducible apply q_ls hR); exact rfl; (with_reducible apply t_len Tryd.underlying31); (apply EvC.now; exact rfl); (simp only [List.set_cons_succ, List.set_cons_zero]; exact rfl); clear hR; intro w hR)
    | ((with_reducible apply q_ls hR); exact rfl; (with_reducible apply t_cmp); (apply EvC.now; exact rfl); (apply EvC.now; exact rfl); exact HZ.out; (simp only [List.set_cons_succ, List.set_cons_zero]; exact rfl); clear hR; intro w hR))
  go_loopw [3, 4, 5, 13] (fun vo vf vn vi wr => SplIs w0 l vo vf vn vi wr) (fun _ _ _ vi _ => l.length - (intOf vi).toNat)
  case atStart => exact ⟨0, 0, 0, [], [], [], rfl, Nat.zero_le _, rfl, Nat.le_refl _, rfl, Nat.le_refl _, hR, PSl.nil, Nat.le_refl _, hgo.symm⟩
  case round =>
    clear hR HZ hgo hpos
    obtain ⟨k, f, n, so, si, ps, rfl, hk, rfl, hfk, rfl, hnk, hR, hP, hpk, hrel⟩ := hrel
    obtain ⟨vs, hv1, hS, hv2, hv3⟩ := hP.way
    by_cases hlt : k < l.length
    · obtain ⟨t, ht⟩ : ∃ t, l[k]? = some t := ⟨_, List.getElem?_eq_getElem hlt⟩
      have hts := hT.ok t (List.mem_of_getElem? ht)
      have hcell := RowsAt.cell cellsTok_len hrd ht
      have HL := Lib.hid (show cmpB .lss (k : Int) (l.length : Int) = some true from congrArg some (decide_eq_true (by omega)))
      have HIX := Lib.hid (show (0 : Int) ≤ k ∧ (k : Int) < l.length by omega)
      have HCE := Lib.hid (show ∀ j u, (encTok t).toList[j]? = some u → w0.cell? ((a.add ((k : Int).toNat * 4)).add j) = some u by rw [Int.toNat_natCast]; exact hcell)
      have HK := Lib.hid (show IntKind.i64.wrap ((k : Int) + 1) = ((k + 1 : Nat) : Int) by rw [IntWalk.i64_in _ (by omega)]; omega)
      have hd0 := deepL_any hts (n := n) (by omega)
      have hdl := deepZ_le n t
      have hc0 := signC_any lsCOMMA hts oksCOMMA
      have hsp : splitGo n ((l.drop f).take (k - f)) (l.drop k) = if deepZ n t = 0 ∧ signT t sCOMMA = true then (l.drop f).take (k - f) :: splitGo (deepZ n t) [] (l.drop (k + 1)) else splitGo (deepZ n t) ((l.drop f).take (k + 1 - f)) (l.drop (k + 1)) := by
        rw [← mid_more hfk ht, show l.drop k = t :: l.drop (k + 1) by rw [List.drop_eq_getElem_cons hlt]; rw [List.getElem?_eq_getElem hlt] at ht; rw [Option.some.inj ht]]
        rfl
      rw [hsp] at hrel
      have HREL := Lib.hid hrel
      clear hrel hsp hcell ht
      generalize deepZ n t = n' at *
      generalize signT t sCOMMA = bc at *
      have HD := Lib.hid hd0
      have HC := Lib.hid hc0
      clear hd0 hc0
      go_upto_region 9 with (first
    | ((with_reducible apply q_ls hR); exact rfl; (with_reducible apply t_cmp); (apply EvC.now; exact rfl); (apply EvC.now; exact rfl); exact HL.out; (simp only [List.set_cons_succ, List.set_cons_zero]; exact rfl); clear hR; intro w hR)
    | ((with_reducible apply q_ls hR); exact rfl; (with_reducible apply t_six Tryd.underlying31 iTok); (apply EvC.now; exact rfl); (apply EvC.now; exact rfl); exact HIX.out; (simp only [List.set_cons_succ, List.set_cons_zero]; exact rfl); clear hR; intro w hR)
    | ((with_reducible apply q_ls hR); exact rfl; (with_reducible apply t_oldMany tTok); (apply EvC.now; exact rfl); (exact HCE.out); exact rfl; (simp only [List.set_cons_succ, List.set_cons_zero]; exact rfl); clear hR; intro w hR)
    | ((with_reducible apply wpList_make hR zTok); exact rfl; clear hR; intro g w hR; simp only [List.set_cons_succ, List.set_cons_zero])
    | ((with_reducible apply wpList_built); exact rfl; exact rfl; exact bTok0; (simp only [List.set_cons_succ, List.set_cons_zero]; exact rfl))
    | ((with_reducible apply wpList_put hR tTok); exact rfl; exact rfl; exact rfl; (focus (repeat (first | apply List.Mem.head | apply List.Mem.tail | apply List.mem_append_right))); exact putList_all rfl; exact rfl; (exact Nat.le_refl 4); exact one_tok _; (focus (repeat (first | apply Upd.head | apply Upd.tail))); clear hR; intro w hR)
    | ((with_reducible apply wpList_box hR); exact rfl; exact rfl; clear hR; intro g w hR; simp only [List.set_cons_succ, List.set_cons_zero])
    | ((with_reducible apply q_ls hR); exact rfl; ((with_reducible first | apply t_addr (fTok _ (by decide)) | apply t_addr (fStm _ (by decide)) | apply t_one tIntL | apply t_one tStrO | apply t_one tBoolL | apply t_one tStrsL | apply t_one tPartsL | apply t_part tTok | apply t_part tStm) <;> (first | (apply EvC.gv; exact rfl; (with_reducible first | exact Imp.refl _ | (apply Imp.left; exact Imp.refl _) | (apply Imp.right; exact Imp.refl _) | (apply Imp.left; apply Imp.left; exact Imp.refl _))) | (apply EvC.now; exact rfl) | exact rfl | (with_reducible exact EvAll.nil) | (focus (repeat (first | apply EvAll.cons | exact EvAll.nil | (apply EvC.gv; exact rfl; (with_reducible first | exact Imp.refl _ | (apply Imp.left; exact Imp.refl _) | (apply Imp.right; exact Imp.refl _) | (apply Imp.left; apply Imp.left; exact Imp.refl _))) | (apply EvC.now; exact rfl))); done) | (first | exact ext_tok _ | exact ext_stm _ _ _) | (focus (repeat (first | apply List.Mem.head | apply List.Mem.tail | apply List.mem_append_right))))); (simp only [List.set_cons_succ, List.set_cons_zero]; exact rfl); clear hR; intro w hR)
    | (go_at_call 17; refine (HD.out _).mono ?_; rintro e w' ⟨rfl, hb⟩; replace hR := hR.grow hb; clear hb))
      by_cases h0 : n' = 0
      · have HG := Lib.hid (show cmpB .eql (n' : Int) 0 = some true from congrArg some (decide_eq_true (by omega)))
        cases bc with
        | true =>
          have hcut := hT.cut hfk hk
          have hmid : ((l.drop f).take (k - f)).length = k - f := by rw [List.length_take, List.length_drop]; omega
          have hrel := HREL.out
          rw [if_pos ⟨h0, rfl⟩] at hrel
          clear HREL
          go_upto_region 10 with (first
    | ((with_reducible apply q_ls hR); exact rfl; (with_reducible apply t_cmp); (apply EvC.now; exact rfl); (apply EvC.now; exact rfl); exact HG.out; (simp only [List.set_cons_succ, List.set_cons_zero]; exact rfl); clear hR; intro w hR)
    | ((with_reducible apply wpList_box hR); exact rfl; exact rfl; clear hR; intro g w hR; simp only [List.set_cons_succ, List.set_cons_zero])
    | ((with_reducible apply q_ls hR); exact rfl; ((with_reducible first | apply t_addr (fTok _ (by decide)) | apply t_addr (fStm _ (by decide)) | apply t_one tIntL | apply t_one tStrO | apply t_one tBoolL | apply t_one tStrsL | apply t_one tPartsL | apply t_part tTok | apply t_part tStm) <;> (first | (apply EvC.gv; exact rfl; (with_reducible first | exact Imp.refl _ | (apply Imp.left; exact Imp.refl _) | (apply Imp.right; exact Imp.refl _) | (apply Imp.left; apply Imp.left; exact Imp.refl _))) | (apply EvC.now; exact rfl) | exact rfl | (with_reducible exact EvAll.nil) | (focus (repeat (first | apply EvAll.cons | exact EvAll.nil | (apply EvC.gv; exact rfl; (with_reducible first | exact Imp.refl _ | (apply Imp.left; exact Imp.refl _) | (apply Imp.right; exact Imp.refl _) | (apply Imp.left; apply Imp.left; exact Imp.refl _))) | (apply EvC.now; exact rfl))); done) | (first | exact ext_tok _ | exact ext_stm _ _ _) | (focus (repeat (first | apply List.Mem.head | apply List.Mem.tail | apply List.mem_append_right))))); (simp only [List.set_cons_succ, List.set_cons_zero]; exact rfl); clear hR; intro w hR)
    | (go_at_call 18; refine (HC.out _).mono ?_; rintro e w' ⟨rfl, hb⟩; replace hR := hR.grow hb; clear hb))
          replace hR := hR.drop (List.sublist_cons_self _ _)
          generalize (l.drop f).take (k - f) = m at *
          go_wp2_with (first
    | ((with_reducible apply q_ls hR); exact rfl; (with_reducible apply t_midRd (i := f) (j := k) Tryd.underlying31 iTok); (apply EvC.now; exact rfl); (apply EvC.now; exact rfl); (apply EvC.now; exact rfl); (exact hrd); (exact rfl); (exact rfl); exact hfk; exact hk; (simp only [List.set_cons_succ, List.set_cons_zero]; exact rfl); clear hR; intro w hR)
    | (go_at_call 19; refine (partL_any (hcut.own hR) (by omega)).mono ?_; rintro e w' ⟨s1, u, rfl, hO, hS1⟩; replace hR := hR.join hO; clear hO; obtain ⟨p1, n1, c1, rfl⟩ := hS1.shape)
    | ((with_reducible apply wpList_buildS hR); exact rfl; exact rfl; (exact bParts1 _ _ _); clear hR; intro gb w hR; simp only [List.set_cons_succ, List.set_cons_zero])
    | ((with_reducible apply wpList_appG hR tPartsB); exact rfl; exact rfl; exact rfl; exact hS; (exact Les.tail (Les.skip s1 Les.head)); (exact rd_val hS1.one hR (.head _)); (simp only [maxLen]; omega); omega; clear hR hS; intro s3 v3 w hR hS; simp only [List.set_cons_succ, List.set_cons_zero])
    | ((with_reducible apply q_ls hR); exact rfl; (with_reducible apply t_numE (op := .add)); (apply EvC.now; exact rfl); (apply EvC.now; exact rfl); exact rfl; exact HK.out; (simp only [List.set_cons_succ, List.set_cons_zero]; exact rfl); clear hR; intro w hR))
          go_round
          case rel =>
            refine ⟨k + 1, k + 1, n', s3, s1 ++ si, ps ++ [m], rfl, hlt, rfl, Nat.le_refl _, (by rw [h0]; rfl), by omega, hR.drop (List.Sublist.append (List.Sublist.refl _) (List.sublist_cons_self _ _)), PSl.more ⟨vs, hv1, hv2, hv3, hS⟩ (hS1.rowsR cellsTok_one) hS1.one, by rw [List.length_append]; simp only [List.length_cons, List.length_nil]; omega, ?_⟩
            rw [Nat.sub_self, List.take_zero, List.append_assoc]
            exact hrel
          case measure => simp [intOf]; omega
        | false =>
          have hrel := HREL.out
          rw [if_neg (fun h => Bool.noConfusion h.2)] at hrel
          clear HREL
          go_wp2_with (first
    | ((with_reducible apply q_ls hR); exact rfl; (with_reducible apply t_cmp); (apply EvC.now; exact rfl); (apply EvC.now; exact rfl); exact HG.out; (simp only [List.set_cons_succ, List.set_cons_zero]; exact rfl); clear hR; intro w hR)
    | ((with_reducible apply wpList_box hR); exact rfl; exact rfl; clear hR; intro g w hR; simp only [List.set_cons_succ, List.set_cons_zero])
    | ((with_reducible apply q_ls hR); exact rfl; ((with_reducible first | apply t_addr (fTok _ (by decide)) | apply t_addr (fStm _ (by decide)) | apply t_one tIntL | apply t_one tStrO | apply t_one tBoolL | apply t_one tStrsL | apply t_one tPartsL | apply t_part tTok | apply t_part tStm) <;> (first | (apply EvC.gv; exact rfl; (with_reducible first | exact Imp.refl _ | (apply Imp.left; exact Imp.refl _) | (apply Imp.right; exact Imp.refl _) | (apply Imp.left; apply Imp.left; exact Imp.refl _))) | (apply EvC.now; exact rfl) | exact rfl | (with_reducible exact EvAll.nil) | (focus (repeat (first | apply EvAll.cons | exact EvAll.nil | (apply EvC.gv; exact rfl; (with_reducible first | exact Imp.refl _ | (apply Imp.left; exact Imp.refl _) | (apply Imp.right; exact Imp.refl _) | (apply Imp.left; apply Imp.left; exact Imp.refl _))) | (apply EvC.now; exact rfl))); done) | (first | exact ext_tok _ | exact ext_stm _ _ _) | (focus (repeat (first | apply List.Mem.head | apply List.Mem.tail | apply List.mem_append_right))))); (simp only [List.set_cons_succ, List.set_cons_zero]; exact rfl); clear hR; intro w hR)
    | (go_at_call 18; refine (HC.out _).mono ?_; rintro e w' ⟨rfl, hb⟩; replace hR := hR.grow hb; clear hb)
    | ((with_reducible apply q_ls hR); exact rfl; (with_reducible apply t_numE (op := .add)); (apply EvC.now; exact rfl); (apply EvC.now; exact rfl); exact rfl; exact HK.out; (simp only [List.set_cons_succ, List.set_cons_zero]; exact rfl); clear hR; intro w hR))
          go_round
          case rel => exact ⟨k + 1, f, n', so, si, ps, rfl, hlt, rfl, by omega, (by rw [h0]; rfl), by omega, hR.drop (List.sublist_cons_self _ _), hP, by omega, hrel⟩
          case measure => simp [intOf]; omega
      · have HG := Lib.hid (show cmpB .eql (n' : Int) 0 = some false from congrArg some (decide_eq_false (by omega)))
        have hrel := HREL.out
        rw [if_neg (fun h => h0 h.1)] at hrel
        clear HREL HC
        go_wp2_with (first
    | ((with_reducible apply q_ls hR); exact rfl; (with_reducible apply t_cmp); (apply EvC.now; exact rfl); (apply EvC.now; exact rfl); exact HG.out; (simp only [List.set_cons_succ, List.set_cons_zero]; exact rfl); clear hR; intro w hR)
    | ((with_reducible apply wpList_box hR); exact rfl; exact rfl; clear hR; intro g w hR; simp only [List.set_cons_succ, List.set_cons_zero])
    | ((with_reducible apply q_ls hR); exact rfl; ((with_reducible first | apply t_addr (fTok _ (by decide)) | apply t_addr (fStm _ (by decide)) | apply t_one tIntL | apply t_one tStrO | apply t_one tBoolL | apply t_one tStrsL | apply t_one tPartsL | apply t_part tTok | apply t_part tStm) <;> (first | (apply EvC.gv; exact rfl; (with_reducible first | exact Imp.refl _ | (apply Imp.left; exact Imp.refl _) | (apply Imp.right; exact Imp.refl _) | (apply Imp.left; apply Imp.left; exact Imp.refl _))) | (apply EvC.now; exact rfl) | exact rfl | (with_reducible exact EvAll.nil) | (focus (repeat (first | apply EvAll.cons | exact EvAll.nil | (apply EvC.gv; exact rfl; (with_reducible first | exact Imp.refl _ | (apply Imp.left; exact Imp.refl _) | (apply Imp.right; exact Imp.refl _) | (apply Imp.left; apply Imp.left; exact Imp.refl _))) | (apply EvC.now; exact rfl))); done) | (first | exact ext_tok _ | exact ext_stm _ _ _) | (focus (repeat (first | apply List.Mem.head | apply List.Mem.tail | apply List.mem_append_right))))); (simp only [List.set_cons_succ, List.set_cons_zero]; exact rfl); clear hR; intro w hR)
    | ((with_reducible apply q_ls hR); exact rfl; (with_reducible apply t_numE (op := .add)); (apply EvC.now; exact rfl); (apply EvC.now; exact rfl); exact rfl; exact HK.out; (simp only [List.set_cons_succ, List.set_cons_zero]; exact rfl); clear hR; intro w hR))
        go_round
        case rel => exact ⟨k + 1, f, n', so, si, ps, rfl, hlt, rfl, by omega, rfl, by omega, hR.drop (List.sublist_cons_self _ _), hP, by omega, hrel⟩
        case measure => simp [intOf]; omega
    · obtain rfl : k = l.length := by omega
      have HL := Lib.hid (show cmpB .lss (l.length : Int) (l.length : Int) = some false from congrArg some (decide_eq_false (by omega)))
      have hcut := hT.tail hfk
      have hmid : (l.drop f).length = l.length - f := by rw [List.length_drop]
      rw [List.drop_length, List.take_of_length_le (by omega)] at hrel
      have hrel2 : ps ++ [l.drop f] = splitZ l := hrel
      clear hrel
      generalize l.drop f = m at *
      go_wp2_with (first
    | ((with_reducible apply q_ls hR); exact rfl; (with_reducible apply t_cmp); (apply EvC.now; exact rfl); (apply EvC.now; exact rfl); exact HL.out; (simp only [List.set_cons_succ, List.set_cons_zero]; exact rfl); clear hR; intro w hR)
    | ((with_reducible apply q_ls hR); exact rfl; (with_reducible apply t_tailRd (i := f) Tryd.underlying31 iTok); (apply EvC.now; exact rfl); (apply EvC.now; exact rfl); (exact hrd); (exact rfl); exact hfk; (simp only [List.set_cons_succ, List.set_cons_zero]; exact rfl); clear hR; intro w hR)
    | (go_at_call 19; refine (partL_any (hcut.own hR) (by omega)).mono ?_; rintro e w' ⟨s1, u, rfl, hO, hS1⟩; replace hR := hR.join hO; clear hO; obtain ⟨p1, n1, c1, rfl⟩ := hS1.shape)
    | ((with_reducible apply wpList_buildS hR); exact rfl; exact rfl; (exact bParts1 _ _ _); clear hR; intro gb w hR; simp only [List.set_cons_succ, List.set_cons_zero])
    | ((with_reducible apply wpList_appG hR tPartsB); exact rfl; exact rfl; exact rfl; exact hS; (exact Les.tail (Les.skip s1 Les.head)); (exact rd_val hS1.one hR (.head _)); (simp only [maxLen]; omega); omega; clear hR hS; intro s3 v3 w hR hS; simp only [List.set_cons_succ, List.set_cons_zero]))
      go_ret
      refine ⟨s3 ++ (s1 ++ si), v3, rfl, hR.drop (List.Sublist.append (List.Sublist.refl _) (List.sublist_cons_self _ _)), ?_⟩
      rw [← hrel2]
      exact (PSl.more ⟨vs, hv1, hv2, hv3, hS⟩ (hS1.rowsR cellsTok_one) hS1.one).parts
end Go.Proofs.YtjecckmcjcikdaaDoor
