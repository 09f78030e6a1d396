









/- The contract of line.Parse. No statement of the seat is proved here. -/
import Derived.Test.YtjecckmcjcikdaaDoorLinD
namespace Go.Proofs.YtjecckmcjcikdaaDoor
open Go.ChangeShapes Go.WideShapes Go.ChangeAt Go.RowKit
set_option linter.unusedVariables false
set_option linter.unusedSimpArgs false
set_option maxRecDepth 100000

theorem headD_at {l : List TokZ} {a : TokZ} (h : l[0]? = some a) : l.headD noTok = a := by
  cases l with
  | nil => exact nomatch h
  | cons x r => exact Option.some.inj h
theorem stmt_named {l : List TokZ} {a : TokZ} (ha : l[0]? = some a) (h : namedL l = true) : stmtZ l = behindZ ⟨a.s, false, [], [], []⟩ (l.drop 1) := by
  unfold stmtZ; rw [if_pos h, headD_at ha]
theorem stmt_ahead {l : List TokZ} (h : namedL l = false) : stmtZ l = behindZ (aheadZ l).1 (aheadZ l).2 := by
  unfold stmtZ; rw [if_neg (by rw [h]; decide)]
theorem behind_cons (s : StmZ) (t : TokZ) (r : List TokZ) : behindZ s (t :: r) = if wordT t then ({ s with op := t.s, args := splitZ r }, 0) else (noStm, 3) := rfl
theorem named_len {l : List TokZ} (h : namedL l = true) : 2 ≤ l.length := by
  rcases Nat.lt_or_ge l.length 2 with h2 | h2
  · rw [namedL_short (by omega)] at h; exact nomatch h
  · exact h2
theorem ahead_shape (l : List TokZ) : (aheadZ l).1.op = [] ∧ (aheadZ l).1.args = [] ∧ (aheadZ l).2.length ≤ l.length := by
  have h : ∀ m : List TokZ, (m.dropWhile prefT).length ≤ m.length := fun m => (List.dropWhile_sublist _).length_le
  unfold aheadZ
  split
  · exact ⟨rfl, rfl, by have h2 := h (l.drop 2); rw [List.length_drop] at h2; dsimp only; omega⟩
  · exact ⟨rfl, rfl, h l⟩
theorem stm_no (w : World) : StmAt w nilS nilS noStm := ⟨.nil, .nil, ⟨(fun _ h => nomatch h), ⟨rfl, rfl, .inl ⟨rfl, rfl, rfl⟩⟩⟩, PartsAt.none w⟩
set_option maxHeartbeats 4000000 in
theorem parse_any {s : List Int} (hs : bytesOk s) (w0 : World) : Calls Tryd.prog 6 #[.string (strOfNums s)] w0 (ParseP w0 (parseZ s)) := by
  have hR := Own.start w0
  have HLN := Lib.hid (line_any hs)
  have hlk := line_ok s
  unfold parseZ
  obtain ⟨⟨l, er⟩, hp⟩ : ∃ p, lineZ s = p := ⟨_, rfl⟩
  rw [hp] at HLN hlk ⊢
  dsimp only at HLN hlk ⊢
  clear hp
  by_cases he : er = 0
  case neg =>
    rw [if_neg he]
    have HE := Lib.hid (show cmpB .neq er 0 = some true from congrArg some (by simp [he]))
    go_enter Tryd.func6, Tryd.ntmps6
    go_wp2_with (first
    | ((with_reducible apply wpList_make hR zStm); exact rfl; clear hR; intro g w hR; simp only [List.set_cons_succ, List.set_cons_zero])
    | (go_at_call 13; refine (HLN.out _).mono ?_; rintro e w2 hk; (obtain ⟨v1, rfl, hb, hV1⟩ := RetR.now hk); clear hk; replace hR := hR.grow hb; clear hb)
    | ((with_reducible apply q_ls hR); exact rfl; (with_reducible apply t_extract); (apply EvC.now; exact rfl); exact rfl; (simp only [List.set_cons_succ, List.set_cons_zero]; exact rfl); clear hR; intro w hR)
    | ((with_reducible apply q_ls hR); exact rfl; (with_reducible apply t_cmp (op := .neq)); (apply EvC.now; exact rfl); (apply EvC.now; exact rfl); exact HE.out; (simp only [List.set_cons_succ, List.set_cons_zero]; exact rfl); clear hR; intro w hR)
    | ((with_reducible apply wpList_built); exact rfl; exact rfl; exact bStm0; (simp only [List.set_cons_succ, List.set_cons_zero]; exact rfl))
    | ((with_reducible apply wpList_put hR tStm); exact rfl; exact rfl; exact rfl; (focus (repeat (first | apply List.Mem.head | apply List.Mem.tail | apply List.mem_append_right))); exact put_stm _ _ _ _ _ _; exact rfl; exact Nat.le_refl 5; exact one_stm _ rfl rfl; (focus (repeat (first | apply Upd.head | apply Upd.tail))); clear hR; intro w hR))
    (try simp only [Exit.inBlock, Exit.then])
    exact post_row_tmp hR rfl (by rfl) (by rfl) ((by (focus (repeat (first | apply List.Mem.head | apply List.Mem.tail | apply List.mem_append_right))))) Tryd.underlying26 rfl iStm (by rfl) (by rfl) ⟨nilS, nilS, rfl, hR.below, stm_no _⟩
  case pos =>
  subst he
  rw [if_pos rfl]
  obtain ⟨pz, hpz⟩ : ∃ p, stmtZ l = p := ⟨_, rfl⟩
  rw [hpz]
  have HE := Lib.hid (show cmpB .neq (0 : Int) 0 = some false from rfl)
  go_enter Tryd.func6, Tryd.ntmps6
  go_upto_region 4 with (first
    | ((with_reducible apply wpList_make hR zStm); exact rfl; clear hR; intro g w hR; simp only [List.set_cons_succ, List.set_cons_zero])
    | (go_at_call 13; refine (HLN.out _).mono ?_; rintro e w2 ⟨sl, v1, rfl, hO, hV1⟩; replace hR := hR.join hO; clear hO)
    | ((with_reducible apply q_ls hR); exact rfl; (with_reducible apply t_extract); (apply EvC.now; exact rfl); exact rfl; (simp only [List.set_cons_succ, List.set_cons_zero]; exact rfl); clear hR; intro w hR)
    | ((with_reducible apply q_ls hR); exact rfl; (with_reducible apply t_cmp (op := .neq)); (apply EvC.now; exact rfl); (apply EvC.now; exact rfl); exact HE.out; (simp only [List.set_cons_succ, List.set_cons_zero]; exact rfl); clear hR; intro w hR))
  replace hR : Own w0 w (sl ++ [(g, encSt noStm nilS nilS, 26)]) := hR
  have hB := hR
  have hT : TokL w v1 l := ⟨fun t ht => (hlk.1 t ht).s, hV1 _ _ _ hR fun r hr => List.mem_append_left _ hr⟩
  have hln := hlk.2
  obtain ⟨g2, hg2⟩ : ∃ g2, g = g2 := ⟨_, rfl⟩
  obtain ⟨w1, hw1⟩ : ∃ w1, w = w1 := ⟨_, rfl⟩
  rw [hg2] at hB ⊢
  rw [hw1] at hB hT ⊢
  clear hR hV1 hlk HLN hg2 hw1 HE
  have hR := Own.start w1
  go_upto_if 17 with (first
    | ((with_reducible apply wpList_make hR zStm); exact rfl; clear hR; intro g w hR; simp only [List.set_cons_succ, List.set_cons_zero])
    | (go_at_call 14; refine (isNamed_any (hT.own hR)).mono ?_; rintro e w' ⟨rfl, hb⟩; replace hR := hR.grow hb; clear hb))
  go_cut [4] (fun v wr => ∃ (st : StmZ) (sp : List RowT) (vp : Value) (l1 : List TokZ), TokL w1 v l1 ∧ Own w1 wr ((g, encSt st vp nilS, 26) :: sp) ∧ Sl 9 1 sp vp st.pre.length (st.pre.flatMap cellT) ∧ (∀ t ∈ st.pre, bytesOk t) ∧ bytesOk st.label ∧ st.op = [] ∧ st.args = [] ∧ l1.length ≤ l.length ∧ stmtZ l = behindZ st l1)
  case first =>
    refine wp_cond_at (nm := namedL l) rfl rfl (fun hy => ?_) (fun hy => ?_)
    · have h2 := named_len hy
      obtain ⟨a, ha⟩ : ∃ a, l[0]? = some a := ⟨_, List.getElem?_eq_getElem (by omega)⟩
      obtain ⟨hao, ad, cap, rfl, hcell⟩ := hT.el ha
      have hrd := hT.rd
      have hm1 : 1 ≤ l.length := by omega
      have HIX := Lib.hid (show (0 : Int) ≤ 0 ∧ (0 : Int) < l.length by omega)
      have HC1 := Lib.hid (show w1.cell? ((ad.add ((0 : Int).toNat * 4)).add 1) = some (.string (strOfNums a.s)) from hcell 1 _ rfl)
      clear hcell
      refine wp_region_some hR [] (List.nil_sublist _) [0, 1, 2, 3, 4, 5, 6] 2 (by kernel_rfl) (by kernel_rfl) (by kernel_rfl) rfl ?_
      clear hR; intro hR
      repeat (refine wpT_step rfl ?_; first
    | ((first | (with_reducible apply q_pl) | ((with_reducible apply q_gd); (first | (apply GdBy.gt; exact rfl; exact rfl) | (apply GdBy.gf; exact rfl; exact rfl) | (apply GdBy.t; exact rfl; exact rfl) | (apply GdBy.f; exact rfl; exact rfl)))); (with_reducible apply t_six Tryd.underlying31 iTok); (first | (apply EvC.gv; exact rfl; (with_reducible first | exact Imp.refl _ | (apply Imp.left; exact Imp.refl _) | (apply Imp.right; exact Imp.refl _) | (apply Imp.left; apply Imp.left; exact Imp.refl _))) | (apply EvC.now; exact rfl) | exact rfl | (with_reducible exact EvAll.nil) | (focus (repeat (first | apply EvAll.cons | exact EvAll.nil | (apply EvC.gv; exact rfl; (with_reducible first | exact Imp.refl _ | (apply Imp.left; exact Imp.refl _) | (apply Imp.right; exact Imp.refl _) | (apply Imp.left; apply Imp.left; exact Imp.refl _))) | (apply EvC.now; exact rfl))); done) | (first | exact ext_tok _ | exact ext_stm _ _ _) | (focus (repeat (first | apply List.Mem.head | apply List.Mem.tail | apply List.mem_append_right)))); (first | (apply EvC.gv; exact rfl; (with_reducible first | exact Imp.refl _ | (apply Imp.left; exact Imp.refl _) | (apply Imp.right; exact Imp.refl _) | (apply Imp.left; apply Imp.left; exact Imp.refl _))) | (apply EvC.now; exact rfl) | exact rfl | (with_reducible exact EvAll.nil) | (focus (repeat (first | apply EvAll.cons | exact EvAll.nil | (apply EvC.gv; exact rfl; (with_reducible first | exact Imp.refl _ | (apply Imp.left; exact Imp.refl _) | (apply Imp.right; exact Imp.refl _) | (apply Imp.left; apply Imp.left; exact Imp.refl _))) | (apply EvC.now; exact rfl))); done) | (first | exact ext_tok _ | exact ext_stm _ _ _) | (focus (repeat (first | apply List.Mem.head | apply List.Mem.tail | apply List.mem_append_right)))); (exact HIX.out); (simp only [List.set_cons_succ, List.set_cons_zero]; exact rfl))
    | ((first | (with_reducible apply q_pl) | ((with_reducible apply q_gd); (first | (apply GdBy.gt; exact rfl; exact rfl) | (apply GdBy.gf; exact rfl; exact rfl) | (apply GdBy.t; exact rfl; exact rfl) | (apply GdBy.f; exact rfl; exact rfl)))); (with_reducible apply t_fieldA (fTokA 1 (by decide))); (first | (apply EvC.gv; exact rfl; (with_reducible first | exact Imp.refl _ | (apply Imp.left; exact Imp.refl _) | (apply Imp.right; exact Imp.refl _) | (apply Imp.left; apply Imp.left; exact Imp.refl _))) | (apply EvC.now; exact rfl) | exact rfl | (with_reducible exact EvAll.nil) | (focus (repeat (first | apply EvAll.cons | exact EvAll.nil | (apply EvC.gv; exact rfl; (with_reducible first | exact Imp.refl _ | (apply Imp.left; exact Imp.refl _) | (apply Imp.right; exact Imp.refl _) | (apply Imp.left; apply Imp.left; exact Imp.refl _))) | (apply EvC.now; exact rfl))); done) | (first | exact ext_tok _ | exact ext_stm _ _ _) | (focus (repeat (first | apply List.Mem.head | apply List.Mem.tail | apply List.mem_append_right)))); (simp only [List.set_cons_succ, List.set_cons_zero]; exact rfl))
    | ((first | (with_reducible apply q_pl) | ((with_reducible apply q_gd); (first | (apply GdBy.gt; exact rfl; exact rfl) | (apply GdBy.gf; exact rfl; exact rfl) | (apply GdBy.t; exact rfl; exact rfl) | (apply GdBy.f; exact rfl; exact rfl)))); (with_reducible apply t_oldOne tStrO); (first | (apply EvC.gv; exact rfl; (with_reducible first | exact Imp.refl _ | (apply Imp.left; exact Imp.refl _) | (apply Imp.right; exact Imp.refl _) | (apply Imp.left; apply Imp.left; exact Imp.refl _))) | (apply EvC.now; exact rfl) | exact rfl | (with_reducible exact EvAll.nil) | (focus (repeat (first | apply EvAll.cons | exact EvAll.nil | (apply EvC.gv; exact rfl; (with_reducible first | exact Imp.refl _ | (apply Imp.left; exact Imp.refl _) | (apply Imp.right; exact Imp.refl _) | (apply Imp.left; apply Imp.left; exact Imp.refl _))) | (apply EvC.now; exact rfl))); done) | (first | exact ext_tok _ | exact ext_stm _ _ _) | (focus (repeat (first | apply List.Mem.head | apply List.Mem.tail | apply List.mem_append_right)))); (with_reducible exact HC1.out); exact rfl; (simp only [List.set_cons_succ, List.set_cons_zero]; exact rfl))
    | ((first | (with_reducible apply q_pl) | ((with_reducible apply q_gd); (first | (apply GdBy.gt; exact rfl; exact rfl) | (apply GdBy.gf; exact rfl; exact rfl) | (apply GdBy.t; exact rfl; exact rfl) | (apply GdBy.f; exact rfl; exact rfl)))); (with_reducible apply t_tailRd (i := 1) Tryd.underlying31 iTok); (first | (apply EvC.gv; exact rfl; (with_reducible first | exact Imp.refl _ | (apply Imp.left; exact Imp.refl _) | (apply Imp.right; exact Imp.refl _) | (apply Imp.left; apply Imp.left; exact Imp.refl _))) | (apply EvC.now; exact rfl) | exact rfl | (with_reducible exact EvAll.nil) | (focus (repeat (first | apply EvAll.cons | exact EvAll.nil | (apply EvC.gv; exact rfl; (with_reducible first | exact Imp.refl _ | (apply Imp.left; exact Imp.refl _) | (apply Imp.right; exact Imp.refl _) | (apply Imp.left; apply Imp.left; exact Imp.refl _))) | (apply EvC.now; exact rfl))); done) | (first | exact ext_tok _ | exact ext_stm _ _ _) | (focus (repeat (first | apply List.Mem.head | apply List.Mem.tail | apply List.mem_append_right)))); (first | (apply EvC.gv; exact rfl; (with_reducible first | exact Imp.refl _ | (apply Imp.left; exact Imp.refl _) | (apply Imp.right; exact Imp.refl _) | (apply Imp.left; apply Imp.left; exact Imp.refl _))) | (apply EvC.now; exact rfl) | exact rfl | (with_reducible exact EvAll.nil) | (focus (repeat (first | apply EvAll.cons | exact EvAll.nil | (apply EvC.gv; exact rfl; (with_reducible first | exact Imp.refl _ | (apply Imp.left; exact Imp.refl _) | (apply Imp.right; exact Imp.refl _) | (apply Imp.left; apply Imp.left; exact Imp.refl _))) | (apply EvC.now; exact rfl))); done) | (first | exact ext_tok _ | exact ext_stm _ _ _) | (focus (repeat (first | apply List.Mem.head | apply List.Mem.tail | apply List.mem_append_right)))); exact hrd; exact rfl; (exact hm1); (simp only [List.set_cons_succ, List.set_cons_zero]; exact rfl))
    | ((first | (with_reducible apply q_pl) | ((with_reducible apply q_gd); (first | (apply GdBy.gt; exact rfl; exact rfl) | (apply GdBy.gf; exact rfl; exact rfl) | (apply GdBy.t; exact rfl; exact rfl) | (apply GdBy.f; exact rfl; exact rfl)))); (with_reducible apply t_addr (fStm _ (by decide))); (first | (apply EvC.gv; exact rfl; (with_reducible first | exact Imp.refl _ | (apply Imp.left; exact Imp.refl _) | (apply Imp.right; exact Imp.refl _) | (apply Imp.left; apply Imp.left; exact Imp.refl _))) | (apply EvC.now; exact rfl) | exact rfl | (with_reducible exact EvAll.nil) | (focus (repeat (first | apply EvAll.cons | exact EvAll.nil | (apply EvC.gv; exact rfl; (with_reducible first | exact Imp.refl _ | (apply Imp.left; exact Imp.refl _) | (apply Imp.right; exact Imp.refl _) | (apply Imp.left; apply Imp.left; exact Imp.refl _))) | (apply EvC.now; exact rfl))); done) | (first | exact ext_tok _ | exact ext_stm _ _ _) | (focus (repeat (first | apply List.Mem.head | apply List.Mem.tail | apply List.mem_append_right)))); (simp only [List.set_cons_succ, List.set_cons_zero]; exact rfl))
    | ((first | (with_reducible apply q_pl) | ((with_reducible apply q_gd); (first | (apply GdBy.gt; exact rfl; exact rfl) | (apply GdBy.gf; exact rfl; exact rfl) | (apply GdBy.t; exact rfl; exact rfl) | (apply GdBy.f; exact rfl; exact rfl)))); (first | ((with_reducible first | apply t_move | apply t_assign | apply t_and | apply t_or | apply t_cmp | apply t_not | apply t_addr (fTok _ (by decide)) | apply t_addr (fStm _ (by decide)) | apply t_one tIntL | apply t_one tStrO | apply t_one tBoolL | apply t_one tStrsL | apply t_one tPartsL | apply t_part tTok | apply t_part tStm) <;> (first | (apply EvC.gv; exact rfl; (with_reducible first | exact Imp.refl _ | (apply Imp.left; exact Imp.refl _) | (apply Imp.right; exact Imp.refl _) | (apply Imp.left; apply Imp.left; exact Imp.refl _))) | (apply EvC.now; exact rfl) | exact rfl | (with_reducible exact EvAll.nil) | (focus (repeat (first | apply EvAll.cons | exact EvAll.nil | (apply EvC.gv; exact rfl; (with_reducible first | exact Imp.refl _ | (apply Imp.left; exact Imp.refl _) | (apply Imp.right; exact Imp.refl _) | (apply Imp.left; apply Imp.left; exact Imp.refl _))) | (apply EvC.now; exact rfl))); done) | (first | exact ext_tok _ | exact ext_stm _ _ _) | (focus (repeat (first | apply List.Mem.head | apply List.Mem.tail | apply List.mem_append_right)))))); (simp only [List.set_cons_succ, List.set_cons_zero]; exact rfl)))
      refine wpT_nil ?_
      refine wpG_put1 hR tStrO (i := 7) (by decide +kernel) rfl rfl rfl (.head _) (put_sLabel _ _ _ _) (Nat.le_of_ble_eq_true rfl) rfl .head (List.nil_sublist _) ?_
      clear hR; intro w hR
      refine wpG_q hR (i := 8) (by decide +kernel) rfl rfl (t_assign (EvC.now rfl)) (by (simp only [List.set_cons_succ, List.set_cons_zero]; exact rfl)) (List.nil_sublist _) ?_
      clear hR; intro w hR
      refine wpG_end hR (by decide +kernel) ?_
      clear hR; intro w hR
      go_wp2_with fail
      go_meet
      exact ⟨⟨a.s, false, [], [], []⟩, [], nilS, l.drop 1, hT.tail hm1, hR, Sl.nil _ _, (fun _ h => nomatch h), hao, rfl, rfl, by rw [List.length_drop]; omega, stmt_named ha hy⟩
    · have hsh := ahead_shape l
      have hst := stmt_ahead hy
      go_wp2_with (first
    | (go_at_call 15; refine (ahead_any hT (by omega) hR).mono ?_; rintro e w2 ⟨sp, vp, v2, rfl, hO, hSp, hT2, hpo, hlo⟩; clear hR; have hR := hO; clear hO))
      go_meet
      rw [List.append_nil] at hR
      exact ⟨(aheadZ l).1, sp, vp, (aheadZ l).2, hT2, hR, hSp, hpo, hlo, hsh.1, hsh.2.1, hsh.2.2, hst⟩
  case rest =>
  clear hR hT
  obtain ⟨st, sp, vp, l1, hT, hR, hSp, hpo, hlo, hop, har, hl1n, hst⟩ := hcut
  rw [hpz] at hst
  have hrd := hT.rd
  have hvp := hSp.one
  have hM2 : ∀ c : Array Value, (g2, encSt noStm nilS nilS, 26) ∈ ((g, c, 26) :: (sp ++ (sl ++ [(g2, encSt noStm nilS nilS, 26)]))) := fun c => .tail _ (List.mem_append_right _ (List.mem_append_right _ (.head _)))
  cases hl1 : l1 with
  | nil =>
    have HG := Lib.hid (show cmpB .eql (l1.length : Int) 0 = some true by rw [hl1]; rfl)
    have hfin : pz = (st, 0) := by rw [hst, hl1]; rfl
    go_upto_region 9 with (first
    | ((with_reducible apply q_ls hR); exact rfl; (with_reducible apply t_lenRd Tryd.underlying31); (apply EvC.now; exact rfl); exact hrd; (simp only [List.set_cons_succ, List.set_cons_zero]; exact rfl); clear hR; intro w hR)
    | ((with_reducible apply q_ls hR); exact rfl; (with_reducible apply t_cmp (op := .eql)); (apply EvC.now; exact rfl); (apply EvC.now; exact rfl); exact HG.out; (simp only [List.set_cons_succ, List.set_cons_zero]; exact rfl); clear hR; intro w hR))
    replace hR : Own w0 _ ((g, encSt st vp nilS, 26) :: (sp ++ (sl ++ [(g2, encSt noStm nilS nilS, 26)]))) := hB.join hR
    go_wp2_with (first
    | ((with_reducible apply wpList_box hR); exact rfl; exact rfl; clear hR; intro g w hR; simp only [List.set_cons_succ, List.set_cons_zero])
    | ((with_reducible apply q_ls hR); exact rfl; ((with_reducible first | apply t_addr (fTok _ (by decide)) | apply t_addr (fStm _ (by decide)) | apply t_one tIntL | apply t_one tStrO | apply t_one tBoolL | apply t_one tStrsL | apply t_one tPartsL | apply t_part tTok | apply t_part tStm) <;> (first | (apply EvC.gv; exact rfl; (with_reducible first | exact Imp.refl _ | (apply Imp.left; exact Imp.refl _) | (apply Imp.right; exact Imp.refl _) | (apply Imp.left; apply Imp.left; exact Imp.refl _))) | (apply EvC.now; exact rfl) | exact rfl | (with_reducible exact EvAll.nil) | (focus (repeat (first | apply EvAll.cons | exact EvAll.nil | (apply EvC.gv; exact rfl; (with_reducible first | exact Imp.refl _ | (apply Imp.left; exact Imp.refl _) | (apply Imp.right; exact Imp.refl _) | (apply Imp.left; apply Imp.left; exact Imp.refl _))) | (apply EvC.now; exact rfl))); done) | (first | exact ext_tok _ | exact ext_stm _ _ _) | (focus (repeat (first | apply List.Mem.head | apply List.Mem.tail | apply List.mem_append_right))))); (simp only [List.set_cons_succ, List.set_cons_zero]; exact rfl); clear hR; intro w hR)
    | ((with_reducible apply wpList_put hR tStm); exact rfl; exact rfl; exact rfl; exact hM2 _; exact put_stm _ _ _ _ _ _; exact rfl; exact Nat.le_refl 5; exact one_stm _ hvp rfl; exact (Upd.tail (Upd.skipL sp (Upd.skipL sl Upd.head))); clear hR; intro w hR))
    (try simp only [Exit.inBlock, Exit.then])
    exact post_row_tmp hR rfl (by rfl) (by rfl) ((.tail _ (List.mem_append_right _ (List.mem_append_right _ (.head _))))) Tryd.underlying26 rfl iStm (by rfl) (by rfl) (by show ParseP w0 pz _ _; rw [hfin]; exact ⟨vp, nilS, rfl, hR.below, ⟨hlo, by show bytesOk st.op; rw [hop]; exact .nil, hSp.strs hR (fun r hr => .tail _ (List.mem_append_left _ hr)) hpo, by show PartsAt _ _ st.args; rw [har]; exact PartsAt.none _⟩⟩)
  | cons t r =>
    have ht : l1[0]? = some t := by rw [hl1]; rfl
    have hm1 : 1 ≤ l1.length := by rw [hl1]; simp
    have hd1 : l1.drop 1 = r := by rw [hl1]; rfl
    obtain ⟨hto, a, cap, rfl, hcell⟩ := hT.el ht
    have HG := Lib.hid (show cmpB .eql (l1.length : Int) 0 = some false from congrArg some (decide_eq_false (by omega)))
    have HIX := Lib.hid (show (0 : Int) ≤ 0 ∧ (0 : Int) < l1.length by omega)
    have HC1 := Lib.hid (show w1.cell? ((a.add ((0 : Int).toNat * 4)).add 1) = some (.string (strOfNums t.s)) from hcell 1 _ rfl)
    have HCM := Lib.hid (show ∀ j u, (encTok t).toList[j]? = some u → w1.cell? ((a.add ((0 : Int).toNat * 4)).add j) = some u from hcell)
    have hTt := hT.tail hm1
    rw [hd1] at hTt
    have hrl : r.length + 1 = l1.length := by rw [hl1]; simp
    rw [hl1] at hst
    clear hl1 ht hcell hd1
    have HW := Lib.hid (wordL_any hto)
    cases hw : wordT t with
    | false =>
      rw [hw] at HW
      have hfin : pz = (noStm, 3) := by rw [hst, behind_cons, hw]; rfl
      go_upto_region 11 with (first
    | ((with_reducible apply q_ls hR); exact rfl; (with_reducible apply t_len Tryd.underlying31); (apply EvC.now; exact rfl); (simp only [List.set_cons_succ, List.set_cons_zero]; exact rfl); clear hR; intro w hR)
    | ((with_reducible apply q_ls hR); exact rfl; (with_reducible apply t_cmp (op := .eql)); (apply EvC.now; exact rfl); (apply EvC.now; exact rfl); exact HG.out; (simp only [List.set_cons_succ, List.set_cons_zero]; exact rfl); clear hR; intro w hR)
    | ((with_reducible apply q_ls hR); exact rfl; (with_reducible apply t_six Tryd.underlying31 iTok); (apply EvC.now; exact rfl); (apply EvC.now; exact rfl); exact HIX.out; (simp only [List.set_cons_succ, List.set_cons_zero]; exact rfl); clear hR; intro w hR)
    | ((with_reducible apply q_ls hR); exact rfl; (with_reducible apply t_oldMany tTok); (apply EvC.now; exact rfl); (exact HCM.out); exact rfl; (simp only [List.set_cons_succ, List.set_cons_zero]; exact rfl); clear hR; intro w hR)
    | (go_at_call 16; refine (HW.out _).mono ?_; rintro e w' ⟨rfl, hb⟩; replace hR := hR.grow hb; clear hb))
      replace hR : Own w0 _ ((g, encSt st vp nilS, 26) :: (sp ++ (sl ++ [(g2, encSt noStm nilS nilS, 26)]))) := hB.join hR
      go_wp2_with (first
    | ((with_reducible apply wpList_built); exact rfl; exact rfl; exact bStm0; (simp only [List.set_cons_succ, List.set_cons_zero]; exact rfl))
    | ((with_reducible apply wpList_put hR tStm); exact rfl; exact rfl; exact rfl; exact hM2 _; exact put_stm _ _ _ _ _ _; exact rfl; exact Nat.le_refl 5; exact one_stm _ rfl rfl; exact (Upd.tail (Upd.skipL sp (Upd.skipL sl Upd.head))); clear hR; intro w hR))
      (try simp only [Exit.inBlock, Exit.then])
      exact post_row_tmp hR rfl (by rfl) (by rfl) ((.tail _ (List.mem_append_right _ (List.mem_append_right _ (.head _))))) Tryd.underlying26 rfl iStm (by rfl) (by rfl) (by show ParseP w0 pz _ _; rw [hfin]; exact ⟨nilS, nilS, rfl, hR.below, stm_no _⟩)
    | true =>
      rw [hw] at HW
      have hfin : pz = ({ st with op := t.s, args := splitZ r }, 0) := by rw [hst, behind_cons, hw]; rfl
      go_upto_region 12 with (first
    | ((with_reducible apply q_ls hR); exact rfl; (with_reducible apply t_len Tryd.underlying31); (apply EvC.now; exact rfl); (simp only [List.set_cons_succ, List.set_cons_zero]; exact rfl); clear hR; intro w hR)
    | ((with_reducible apply q_ls hR); exact rfl; (with_reducible apply t_cmp (op := .eql)); (apply EvC.now; exact rfl); (apply EvC.now; exact rfl); exact HG.out; (simp only [List.set_cons_succ, List.set_cons_zero]; exact rfl); clear hR; intro w hR)
    | ((with_reducible apply q_ls hR); exact rfl; (with_reducible apply t_six Tryd.underlying31 iTok); (apply EvC.now; exact rfl); (apply EvC.now; exact rfl); exact HIX.out; (simp only [List.set_cons_succ, List.set_cons_zero]; exact rfl); clear hR; intro w hR)
    | ((with_reducible apply q_ls hR); exact rfl; (with_reducible apply t_oldMany tTok); (apply EvC.now; exact rfl); (exact HCM.out); exact rfl; (simp only [List.set_cons_succ, List.set_cons_zero]; exact rfl); clear hR; intro w hR)
    | (go_at_call 16; refine (HW.out _).mono ?_; rintro e w' ⟨rfl, hb⟩; replace hR := hR.grow hb; clear hb))
      refine wp_region_some hR sp (List.sublist_cons_self _ _) [0, 1, 2, 3, 4, 5] 5 (by kernel_rfl) (by kernel_rfl) (by kernel_rfl) rfl ?_
      clear hR; intro hR
      repeat (refine wpT_step rfl ?_; first
    | ((first | (with_reducible apply q_pl) | ((with_reducible apply q_gd); (first | (apply GdBy.gt; exact rfl; exact rfl) | (apply GdBy.gf; exact rfl; exact rfl) | (apply GdBy.t; exact rfl; exact rfl) | (apply GdBy.f; exact rfl; exact rfl)))); (with_reducible apply t_six Tryd.underlying31 iTok); (first | (apply EvC.gv; exact rfl; (with_reducible first | exact Imp.refl _ | (apply Imp.left; exact Imp.refl _) | (apply Imp.right; exact Imp.refl _) | (apply Imp.left; apply Imp.left; exact Imp.refl _))) | (apply EvC.now; exact rfl) | exact rfl | (with_reducible exact EvAll.nil) | (focus (repeat (first | apply EvAll.cons | exact EvAll.nil | (apply EvC.gv; exact rfl; (with_reducible first | exact Imp.refl _ | (apply Imp.left; exact Imp.refl _) | (apply Imp.right; exact Imp.refl _) | (apply Imp.left; apply Imp.left; exact Imp.refl _))) | (apply EvC.now; exact rfl))); done) | (first | exact ext_tok _ | exact ext_stm _ _ _) | (focus (repeat (first | apply List.Mem.head | apply List.Mem.tail | apply List.mem_append_right)))); (first | (apply EvC.gv; exact rfl; (with_reducible first | exact Imp.refl _ | (apply Imp.left; exact Imp.refl _) | (apply Imp.right; exact Imp.refl _) | (apply Imp.left; apply Imp.left; exact Imp.refl _))) | (apply EvC.now; exact rfl) | exact rfl | (with_reducible exact EvAll.nil) | (focus (repeat (first | apply EvAll.cons | exact EvAll.nil | (apply EvC.gv; exact rfl; (with_reducible first | exact Imp.refl _ | (apply Imp.left; exact Imp.refl _) | (apply Imp.right; exact Imp.refl _) | (apply Imp.left; apply Imp.left; exact Imp.refl _))) | (apply EvC.now; exact rfl))); done) | (first | exact ext_tok _ | exact ext_stm _ _ _) | (focus (repeat (first | apply List.Mem.head | apply List.Mem.tail | apply List.mem_append_right)))); (exact HIX.out); (simp only [List.set_cons_succ, List.set_cons_zero]; exact rfl))
    | ((first | (with_reducible apply q_pl) | ((with_reducible apply q_gd); (first | (apply GdBy.gt; exact rfl; exact rfl) | (apply GdBy.gf; exact rfl; exact rfl) | (apply GdBy.t; exact rfl; exact rfl) | (apply GdBy.f; exact rfl; exact rfl)))); (with_reducible apply t_fieldA (fTokA 1 (by decide))); (first | (apply EvC.gv; exact rfl; (with_reducible first | exact Imp.refl _ | (apply Imp.left; exact Imp.refl _) | (apply Imp.right; exact Imp.refl _) | (apply Imp.left; apply Imp.left; exact Imp.refl _))) | (apply EvC.now; exact rfl) | exact rfl | (with_reducible exact EvAll.nil) | (focus (repeat (first | apply EvAll.cons | exact EvAll.nil | (apply EvC.gv; exact rfl; (with_reducible first | exact Imp.refl _ | (apply Imp.left; exact Imp.refl _) | (apply Imp.right; exact Imp.refl _) | (apply Imp.left; apply Imp.left; exact Imp.refl _))) | (apply EvC.now; exact rfl))); done) | (first | exact ext_tok _ | exact ext_stm _ _ _) | (focus (repeat (first | apply List.Mem.head | apply List.Mem.tail | apply List.mem_append_right)))); (simp only [List.set_cons_succ, List.set_cons_zero]; exact rfl))
    | ((first | (with_reducible apply q_pl) | ((with_reducible apply q_gd); (first | (apply GdBy.gt; exact rfl; exact rfl) | (apply GdBy.gf; exact rfl; exact rfl) | (apply GdBy.t; exact rfl; exact rfl) | (apply GdBy.f; exact rfl; exact rfl)))); (with_reducible apply t_oldOne tStrO); (first | (apply EvC.gv; exact rfl; (with_reducible first | exact Imp.refl _ | (apply Imp.left; exact Imp.refl _) | (apply Imp.right; exact Imp.refl _) | (apply Imp.left; apply Imp.left; exact Imp.refl _))) | (apply EvC.now; exact rfl) | exact rfl | (with_reducible exact EvAll.nil) | (focus (repeat (first | apply EvAll.cons | exact EvAll.nil | (apply EvC.gv; exact rfl; (with_reducible first | exact Imp.refl _ | (apply Imp.left; exact Imp.refl _) | (apply Imp.right; exact Imp.refl _) | (apply Imp.left; apply Imp.left; exact Imp.refl _))) | (apply EvC.now; exact rfl))); done) | (first | exact ext_tok _ | exact ext_stm _ _ _) | (focus (repeat (first | apply List.Mem.head | apply List.Mem.tail | apply List.mem_append_right)))); (with_reducible exact HC1.out); exact rfl; (simp only [List.set_cons_succ, List.set_cons_zero]; exact rfl))
    | ((first | (with_reducible apply q_pl) | ((with_reducible apply q_gd); (first | (apply GdBy.gt; exact rfl; exact rfl) | (apply GdBy.gf; exact rfl; exact rfl) | (apply GdBy.t; exact rfl; exact rfl) | (apply GdBy.f; exact rfl; exact rfl)))); (with_reducible apply t_tailRd (i := 1) Tryd.underlying31 iTok); (first | (apply EvC.gv; exact rfl; (with_reducible first | exact Imp.refl _ | (apply Imp.left; exact Imp.refl _) | (apply Imp.right; exact Imp.refl _) | (apply Imp.left; apply Imp.left; exact Imp.refl _))) | (apply EvC.now; exact rfl) | exact rfl | (with_reducible exact EvAll.nil) | (focus (repeat (first | apply EvAll.cons | exact EvAll.nil | (apply EvC.gv; exact rfl; (with_reducible first | exact Imp.refl _ | (apply Imp.left; exact Imp.refl _) | (apply Imp.right; exact Imp.refl _) | (apply Imp.left; apply Imp.left; exact Imp.refl _))) | (apply EvC.now; exact rfl))); done) | (first | exact ext_tok _ | exact ext_stm _ _ _) | (focus (repeat (first | apply List.Mem.head | apply List.Mem.tail | apply List.mem_append_right)))); (first | (apply EvC.gv; exact rfl; (with_reducible first | exact Imp.refl _ | (apply Imp.left; exact Imp.refl _) | (apply Imp.right; exact Imp.refl _) | (apply Imp.left; apply Imp.left; exact Imp.refl _))) | (apply EvC.now; exact rfl) | exact rfl | (with_reducible exact EvAll.nil) | (focus (repeat (first | apply EvAll.cons | exact EvAll.nil | (apply EvC.gv; exact rfl; (with_reducible first | exact Imp.refl _ | (apply Imp.left; exact Imp.refl _) | (apply Imp.right; exact Imp.refl _) | (apply Imp.left; apply Imp.left; exact Imp.refl _))) | (apply EvC.now; exact rfl))); done) | (first | exact ext_tok _ | exact ext_stm _ _ _) | (focus (repeat (first | apply List.Mem.head | apply List.Mem.tail | apply List.mem_append_right)))); exact hrd; exact rfl; (exact hm1); (simp only [List.set_cons_succ, List.set_cons_zero]; exact rfl))
    | ((first | (with_reducible apply q_pl) | ((with_reducible apply q_gd); (first | (apply GdBy.gt; exact rfl; exact rfl) | (apply GdBy.gf; exact rfl; exact rfl) | (apply GdBy.t; exact rfl; exact rfl) | (apply GdBy.f; exact rfl; exact rfl)))); (with_reducible apply t_addr (fStm _ (by decide))); (first | (apply EvC.gv; exact rfl; (with_reducible first | exact Imp.refl _ | (apply Imp.left; exact Imp.refl _) | (apply Imp.right; exact Imp.refl _) | (apply Imp.left; apply Imp.left; exact Imp.refl _))) | (apply EvC.now; exact rfl) | exact rfl | (with_reducible exact EvAll.nil) | (focus (repeat (first | apply EvAll.cons | exact EvAll.nil | (apply EvC.gv; exact rfl; (with_reducible first | exact Imp.refl _ | (apply Imp.left; exact Imp.refl _) | (apply Imp.right; exact Imp.refl _) | (apply Imp.left; apply Imp.left; exact Imp.refl _))) | (apply EvC.now; exact rfl))); done) | (first | exact ext_tok _ | exact ext_stm _ _ _) | (focus (repeat (first | apply List.Mem.head | apply List.Mem.tail | apply List.mem_append_right)))); (simp only [List.set_cons_succ, List.set_cons_zero]; exact rfl))
    | ((first | (with_reducible apply q_pl) | ((with_reducible apply q_gd); (first | (apply GdBy.gt; exact rfl; exact rfl) | (apply GdBy.gf; exact rfl; exact rfl) | (apply GdBy.t; exact rfl; exact rfl) | (apply GdBy.f; exact rfl; exact rfl)))); (first | ((with_reducible first | apply t_move | apply t_assign | apply t_and | apply t_or | apply t_cmp | apply t_not | apply t_addr (fTok _ (by decide)) | apply t_addr (fStm _ (by decide)) | apply t_one tIntL | apply t_one tStrO | apply t_one tBoolL | apply t_one tStrsL | apply t_one tPartsL | apply t_part tTok | apply t_part tStm) <;> (first | (apply EvC.gv; exact rfl; (with_reducible first | exact Imp.refl _ | (apply Imp.left; exact Imp.refl _) | (apply Imp.right; exact Imp.refl _) | (apply Imp.left; apply Imp.left; exact Imp.refl _))) | (apply EvC.now; exact rfl) | exact rfl | (with_reducible exact EvAll.nil) | (focus (repeat (first | apply EvAll.cons | exact EvAll.nil | (apply EvC.gv; exact rfl; (with_reducible first | exact Imp.refl _ | (apply Imp.left; exact Imp.refl _) | (apply Imp.right; exact Imp.refl _) | (apply Imp.left; apply Imp.left; exact Imp.refl _))) | (apply EvC.now; exact rfl))); done) | (first | exact ext_tok _ | exact ext_stm _ _ _) | (focus (repeat (first | apply List.Mem.head | apply List.Mem.tail | apply List.mem_append_right)))))); (simp only [List.set_cons_succ, List.set_cons_zero]; exact rfl)))
      refine wpT_nil ?_
      refine wpG_callO hR (i := 6) (by decide +kernel) Tryd.call11 rfl rfl rfl ?_
      clear hR; intro w hR
      refine (splitL_any (hTt.own hR) (by omega)).mono ?_
      rintro e w' ⟨s3, va, rfl, hO, hPt⟩
      obtain ⟨vs, hvs⟩ := (hPt _ _ _ hO (fun _ h => h)).rd
      have hva := hvs.one
      clear hvs
      refine ⟨_, rfl, (hR.drop (List.sublist_cons_self _ _)).grow hO.below, ?_⟩
      replace hR : Own w1 w' ((g, encSt st vp nilS, 26) :: (s3 ++ sp)) := (hR.join hO).les (Les.skip s3 Les.one)
      clear hO
      simp only [List.set_cons_succ, List.set_cons_zero]
      have hsub : ∀ x : RowT, sp.Sublist (x :: (s3 ++ sp)) := fun x => List.Sublist.cons _ (List.sublist_append_right _ _)
      refine wpG_q hR (i := 7) (by decide +kernel) rfl rfl (t_addr (fStm 3 (by decide)) (EvC.now rfl)) (by (simp only [List.set_cons_succ, List.set_cons_zero]; exact rfl)) (hsub _) ?_
      clear hR; intro w hR
      refine wpG_put1 hR tStrO (i := 8) (by decide +kernel) rfl rfl rfl (.head _) (put_sOp _ _ _ _) (Nat.le_of_ble_eq_true rfl) rfl .head (hsub _) ?_
      clear hR; intro w hR
      refine wpG_q hR (i := 9) (by decide +kernel) rfl rfl (t_addr (fStm 4 (by decide)) (EvC.now rfl)) (by (simp only [List.set_cons_succ, List.set_cons_zero]; exact rfl)) (hsub _) ?_
      clear hR; intro w hR
      refine wpG_put1 hR tPartsL (i := 10) (by decide +kernel) rfl rfl rfl (.head _) (put_sArgs _ _ _ _) (Nat.le_of_ble_eq_true rfl) hva .head (hsub _) ?_
      clear hR; intro w hR
      refine wpG_end hR (by decide +kernel) ?_
      clear hR; intro w hR
      replace hR : Own w0 w ((g, encSt { st with op := t.s } vp va, 26) :: ((s3 ++ sp) ++ (sl ++ [(g2, encSt noStm nilS nilS, 26)]))) := hB.join hR
      go_wp2_with (first
    | ((with_reducible apply wpList_box hR); exact rfl; exact rfl; clear hR; intro g w hR; simp only [List.set_cons_succ, List.set_cons_zero])
    | ((with_reducible apply q_ls hR); exact rfl; ((with_reducible first | apply t_addr (fTok _ (by decide)) | apply t_addr (fStm _ (by decide)) | apply t_one tIntL | apply t_one tStrO | apply t_one tBoolL | apply t_one tStrsL | apply t_one tPartsL | apply t_part tTok | apply t_part tStm) <;> (first | (apply EvC.gv; exact rfl; (with_reducible first | exact Imp.refl _ | (apply Imp.left; exact Imp.refl _) | (apply Imp.right; exact Imp.refl _) | (apply Imp.left; apply Imp.left; exact Imp.refl _))) | (apply EvC.now; exact rfl) | exact rfl | (with_reducible exact EvAll.nil) | (focus (repeat (first | apply EvAll.cons | exact EvAll.nil | (apply EvC.gv; exact rfl; (with_reducible first | exact Imp.refl _ | (apply Imp.left; exact Imp.refl _) | (apply Imp.right; exact Imp.refl _) | (apply Imp.left; apply Imp.left; exact Imp.refl _))) | (apply EvC.now; exact rfl))); done) | (first | exact ext_tok _ | exact ext_stm _ _ _) | (focus (repeat (first | apply List.Mem.head | apply List.Mem.tail | apply List.mem_append_right))))); (simp only [List.set_cons_succ, List.set_cons_zero]; exact rfl); clear hR; intro w hR)
    | ((with_reducible apply wpList_put hR tStm); exact rfl; exact rfl; exact rfl; exact (.tail _ (List.mem_append_right _ (List.mem_append_right _ (.head _)))); exact put_stm _ _ _ _ _ _; exact rfl; exact Nat.le_refl 5; exact one_stm _ hvp hva; exact (Upd.tail (Upd.skipL (s3 ++ sp) (Upd.skipL sl Upd.head))); clear hR; intro w hR))
      (try simp only [Exit.inBlock, Exit.then])
      exact post_row_tmp hR rfl (by rfl) (by rfl) ((.tail _ (List.mem_append_right _ (List.mem_append_right _ (.head _))))) Tryd.underlying26 rfl iStm (by rfl) (by rfl) (by show ParseP w0 pz _ _; rw [hfin]; exact ⟨vp, va, rfl, hR.below, ⟨hlo, hto, hSp.strs hR (fun r hr => .tail _ (List.mem_append_left _ (List.mem_append_right _ hr))) hpo, hPt _ _ _ hR (fun r hr => .tail _ (List.mem_append_left _ (List.mem_append_left _ hr)))⟩⟩)
end Go.Proofs.YtjecckmcjcikdaaDoor
