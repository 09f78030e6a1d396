









/- The contract of package line's ahead. No statement of the seat is proved here. -/
import Derived.Test.YtjecckmcjcikdaaDoorLinC
namespace Go.Proofs.YtjecckmcjcikdaaDoor
open Go.ChangeShapes Go.WideShapes Go.ChangeAt Go.RowKit
set_option linter.unusedVariables false
set_option linter.unusedSimpArgs false
set_option maxRecDepth 100000

theorem Upd.skipL {g : Nat} {c' : Array Value} {l l' : List RowT} (A : List RowT) (h : Upd g c' l l') : Upd g c' (A ++ l) (A ++ l') := by
  induction A with
  | nil => exact h
  | cons x A ih => exact .tail ih
/-- What stands ahead of what is to be done, one prefix after the other. -/
def presZ (l : List TokZ) : List (List Int) := (l.takeWhile prefT).map (·.s)
theorem pres_stop {m : List TokZ} (h : m = [] ∨ ∃ t r, m = t :: r ∧ prefT t = false) : presZ m = [] ∧ m.dropWhile prefT = m := by
  rcases h with rfl | ⟨t, r, rfl, h⟩
  · exact ⟨rfl, rfl⟩
  · unfold presZ
    rw [List.takeWhile_cons, List.dropWhile_cons, h]
    exact ⟨rfl, rfl⟩
theorem pres_more {t : TokZ} {r : List TokZ} (h : prefT t = true) : presZ (t :: r) = t.s :: presZ r ∧ (t :: r).dropWhile prefT = r.dropWhile prefT := by
  unfold presZ
  rw [List.takeWhile_cons, List.dropWhile_cons, h]
  exact ⟨rfl, rfl⟩
theorem ahead_yes {l : List TokZ} {a : TokZ} (ha : l[0]? = some a) (h : labelL l = true) : aheadZ l = (⟨a.s, true, presZ (l.drop 2), [], []⟩, (l.drop 2).dropWhile prefT) := by
  unfold aheadZ presZ
  rw [if_pos h]
  have : l.headD noTok = a := by cases l with
    | nil => exact nomatch ha
    | cons x r => exact Option.some.inj ha
  rw [this]
theorem ahead_no {l : List TokZ} (h : labelL l = false) : aheadZ l = (⟨[], false, presZ l, [], []⟩, l.dropWhile prefT) := by
  unfold aheadZ presZ
  rw [if_neg (by rw [h]; decide)]
/-- The loop over the prefixes. -/
def PreIs (w0 : World) (g : Nat) (L : List RowT) (st : StmZ) (ps : List (List Int)) (rest : List TokZ) (n : Nat) (v : Value) (wr : World) : Prop :=
  ∃ (m : List TokZ) (ds : List (List Int)) (sp : List RowT) (vp : Value), TokL w0 v m ∧ Own w0 wr ((g, encSt st vp nilS, 26) :: (sp ++ L)) ∧ Sl 9 1 sp vp ds.length (ds.flatMap cellT) ∧ (∀ t ∈ ds, bytesOk t) ∧ ds.length + m.length ≤ n ∧ ds ++ presZ m = ps ∧ m.dropWhile prefT = rest
def lenV (v : Value) : Nat := match v with | .slice _ n _ => n | _ => 0
theorem TokL.len {w : World} {v : Value} {m : List TokZ} (h : TokL w v m) : lenV v = m.length := by
  rcases Rd.way h.rd with ⟨rfl, h2, _⟩ | ⟨a, cap, rfl, _⟩
  · rw [h2]; rfl
  · rfl
/-- What a call of ahead leaves. -/
def AheadP (w0 : World) (g : Nat) (L : List RowT) (p : StmZ × List TokZ) (e : Ending) (w' : World) : Prop :=
  ∃ (sp : List RowT) (vp v' : Value), e = .returned v' ∧ Own w0 w' ((g, encSt p.1 vp nilS, 26) :: (sp ++ L)) ∧ Sl 9 1 sp vp p.1.pre.length (p.1.pre.flatMap cellT) ∧ TokL w0 v' p.2 ∧ (∀ t ∈ p.1.pre, bytesOk t) ∧ bytesOk p.1.label
theorem encSt_same (s s' : StmZ) (vp va : Value) (h1 : s.label = s'.label) (h2 : s.colon = s'.colon) (h3 : s.op = s'.op) : encSt s vp va = encSt s' vp va := by unfold encSt; rw [h1, h2, h3]
set_option maxHeartbeats 32000000 in
theorem ahead_any {w0 w : World} {v : Value} {l : List TokZ} (hT : TokL w0 v l) (hl : l.length ≤ 100000) {g : Nat} {L : List RowT} (hR : Own w0 w ((g, encSt noStm nilS nilS, 26) :: L)) :
    Calls Tryd.prog 15 #[.pointer (some ⟨g, 0, none⟩), v] w fun e w' => AheadP w0 g L (aheadZ l) e w' := by
  obtain ⟨n, hn⟩ : ∃ n, n = l.length := ⟨_, rfl⟩
  have hln : n ≤ 100000 := by omega
  by_cases h2 : 2 ≤ l.length
  · obtain ⟨ad, cap, a, b, rfl, ha, hb, hao, hbo, hw⟩ := twoT hT h2
    have HW := Lib.hid hw
    have HG := Lib.hid (show cmpB .geq (l.length : Int) 2 = some true from congrArg some (decide_eq_true (by omega)))
    have hlab := labelL_two ha hb
    have HS := Lib.hid (signC_any lsCOLON hbo oksCOLON)
    go_enter Tryd.func15, Tryd.ntmps15
    go_upto_region 1 with fail
    refine wp_region_tame hR [0, 1, 2, 3, 4, 5, 6, 7, 8, 9, 10, 11, 12, 13, 14, 15] rfl ?_
    repeat (refine wpT_step rfl ?_; first
    | ((with_reducible apply q_pl); (with_reducible apply t_len Tryd.underlying31); (apply EvC.now; exact rfl); (simp only [List.set_cons_succ, List.set_cons_zero]; exact rfl))
    | ((with_reducible apply q_pl); (with_reducible apply t_cmp (op := .geq)); (apply EvC.now; exact rfl); (apply EvC.now; exact rfl); exact HG.out; (simp only [List.set_cons_succ, List.set_cons_zero]; exact rfl))
    | ((first | (with_reducible apply q_pl) | ((with_reducible apply q_gd); (first | (apply GdBy.gt; exact rfl; exact rfl) | (apply GdBy.gf; exact rfl; exact rfl) | (apply GdBy.t; exact rfl; exact rfl) | (apply GdBy.f; exact rfl; exact rfl)))); (with_reducible apply t_six Tryd.underlying31 iTok); (first | (apply EvC.gv; exact rfl; (with_reducible first | exact Imp.refl _ | (apply Imp.left; exact Imp.refl _) | (apply Imp.right; exact Imp.refl _) | (apply Imp.left; apply Imp.left; exact Imp.refl _))) | (apply EvC.now; exact rfl) | exact rfl | (with_reducible exact EvAll.nil) | (focus (repeat (first | apply EvAll.cons | exact EvAll.nil | (apply EvC.gv; exact rfl; (with_reducible first | exact Imp.refl _ | (apply Imp.left; exact Imp.refl _) | (apply Imp.right; exact Imp.refl _) | (apply Imp.left; apply Imp.left; exact Imp.refl _))) | (apply EvC.now; exact rfl))); done) | (first | exact ext_tok _ | exact ext_stm _ _ _) | (focus (repeat (first | apply List.Mem.head | apply List.Mem.tail | apply List.mem_append_right)))); (first | (apply EvC.gv; exact rfl; (with_reducible first | exact Imp.refl _ | (apply Imp.left; exact Imp.refl _) | (apply Imp.right; exact Imp.refl _) | (apply Imp.left; apply Imp.left; exact Imp.refl _))) | (apply EvC.now; exact rfl) | exact rfl | (with_reducible exact EvAll.nil) | (focus (repeat (first | apply EvAll.cons | exact EvAll.nil | (apply EvC.gv; exact rfl; (with_reducible first | exact Imp.refl _ | (apply Imp.left; exact Imp.refl _) | (apply Imp.right; exact Imp.refl _) | (apply Imp.left; apply Imp.left; exact Imp.refl _))) | (apply EvC.now; exact rfl))); done) | (first | exact ext_tok _ | exact ext_stm _ _ _) | (focus (repeat (first | apply List.Mem.head | apply List.Mem.tail | apply List.mem_append_right)))); (with_reducible first | exact HW.out.i0 | exact HW.out.i1); (simp only [List.set_cons_succ, List.set_cons_zero]; exact rfl))
    | ((first | (with_reducible apply q_pl) | ((with_reducible apply q_gd); (first | (apply GdBy.gt; exact rfl; exact rfl) | (apply GdBy.gf; exact rfl; exact rfl) | (apply GdBy.t; exact rfl; exact rfl) | (apply GdBy.f; exact rfl; exact rfl)))); (with_reducible apply t_fieldA (fTokA 0 (by decide))); (first | (apply EvC.gv; exact rfl; (with_reducible first | exact Imp.refl _ | (apply Imp.left; exact Imp.refl _) | (apply Imp.right; exact Imp.refl _) | (apply Imp.left; apply Imp.left; exact Imp.refl _))) | (apply EvC.now; exact rfl) | exact rfl | (with_reducible exact EvAll.nil) | (focus (repeat (first | apply EvAll.cons | exact EvAll.nil | (apply EvC.gv; exact rfl; (with_reducible first | exact Imp.refl _ | (apply Imp.left; exact Imp.refl _) | (apply Imp.right; exact Imp.refl _) | (apply Imp.left; apply Imp.left; exact Imp.refl _))) | (apply EvC.now; exact rfl))); done) | (first | exact ext_tok _ | exact ext_stm _ _ _) | (focus (repeat (first | apply List.Mem.head | apply List.Mem.tail | apply List.mem_append_right)))); (simp only [List.set_cons_succ, List.set_cons_zero]; exact rfl))
    | ((first | (with_reducible apply q_pl) | ((with_reducible apply q_gd); (first | (apply GdBy.gt; exact rfl; exact rfl) | (apply GdBy.gf; exact rfl; exact rfl) | (apply GdBy.t; exact rfl; exact rfl) | (apply GdBy.f; exact rfl; exact rfl)))); (with_reducible apply t_fieldA (fTokA 1 (by decide))); (first | (apply EvC.gv; exact rfl; (with_reducible first | exact Imp.refl _ | (apply Imp.left; exact Imp.refl _) | (apply Imp.right; exact Imp.refl _) | (apply Imp.left; apply Imp.left; exact Imp.refl _))) | (apply EvC.now; exact rfl) | exact rfl | (with_reducible exact EvAll.nil) | (focus (repeat (first | apply EvAll.cons | exact EvAll.nil | (apply EvC.gv; exact rfl; (with_reducible first | exact Imp.refl _ | (apply Imp.left; exact Imp.refl _) | (apply Imp.right; exact Imp.refl _) | (apply Imp.left; apply Imp.left; exact Imp.refl _))) | (apply EvC.now; exact rfl))); done) | (first | exact ext_tok _ | exact ext_stm _ _ _) | (focus (repeat (first | apply List.Mem.head | apply List.Mem.tail | apply List.mem_append_right)))); (simp only [List.set_cons_succ, List.set_cons_zero]; exact rfl))
    | ((first | (with_reducible apply q_pl) | ((with_reducible apply q_gd); (first | (apply GdBy.gt; exact rfl; exact rfl) | (apply GdBy.gf; exact rfl; exact rfl) | (apply GdBy.t; exact rfl; exact rfl) | (apply GdBy.f; exact rfl; exact rfl)))); (with_reducible apply t_oldOne tIntL); (first | (apply EvC.gv; exact rfl; (with_reducible first | exact Imp.refl _ | (apply Imp.left; exact Imp.refl _) | (apply Imp.right; exact Imp.refl _) | (apply Imp.left; apply Imp.left; exact Imp.refl _))) | (apply EvC.now; exact rfl) | exact rfl | (with_reducible exact EvAll.nil) | (focus (repeat (first | apply EvAll.cons | exact EvAll.nil | (apply EvC.gv; exact rfl; (with_reducible first | exact Imp.refl _ | (apply Imp.left; exact Imp.refl _) | (apply Imp.right; exact Imp.refl _) | (apply Imp.left; apply Imp.left; exact Imp.refl _))) | (apply EvC.now; exact rfl))); done) | (first | exact ext_tok _ | exact ext_stm _ _ _) | (focus (repeat (first | apply List.Mem.head | apply List.Mem.tail | apply List.mem_append_right)))); (with_reducible exact HW.out.a0); exact rfl; (simp only [List.set_cons_succ, List.set_cons_zero]; exact rfl))
    | ((first | (with_reducible apply q_pl) | ((with_reducible apply q_gd); (first | (apply GdBy.gt; exact rfl; exact rfl) | (apply GdBy.gf; exact rfl; exact rfl) | (apply GdBy.t; exact rfl; exact rfl) | (apply GdBy.f; exact rfl; exact rfl)))); (with_reducible apply t_oldOne tStrO); (first | (apply EvC.gv; exact rfl; (with_reducible first | exact Imp.refl _ | (apply Imp.left; exact Imp.refl _) | (apply Imp.right; exact Imp.refl _) | (apply Imp.left; apply Imp.left; exact Imp.refl _))) | (apply EvC.now; exact rfl) | exact rfl | (with_reducible exact EvAll.nil) | (focus (repeat (first | apply EvAll.cons | exact EvAll.nil | (apply EvC.gv; exact rfl; (with_reducible first | exact Imp.refl _ | (apply Imp.left; exact Imp.refl _) | (apply Imp.right; exact Imp.refl _) | (apply Imp.left; apply Imp.left; exact Imp.refl _))) | (apply EvC.now; exact rfl))); done) | (first | exact ext_tok _ | exact ext_stm _ _ _) | (focus (repeat (first | apply List.Mem.head | apply List.Mem.tail | apply List.mem_append_right)))); (with_reducible first | exact HW.out.a1 | exact HW.out.b1); exact rfl; (simp only [List.set_cons_succ, List.set_cons_zero]; exact rfl))
    | ((first | (with_reducible apply q_pl) | ((with_reducible apply q_gd); (first | (apply GdBy.gt; exact rfl; exact rfl) | (apply GdBy.gf; exact rfl; exact rfl) | (apply GdBy.t; exact rfl; exact rfl) | (apply GdBy.f; exact rfl; exact rfl)))); (with_reducible apply t_oldMany tTok); (first | (apply EvC.gv; exact rfl; (with_reducible first | exact Imp.refl _ | (apply Imp.left; exact Imp.refl _) | (apply Imp.right; exact Imp.refl _) | (apply Imp.left; apply Imp.left; exact Imp.refl _))) | (apply EvC.now; exact rfl) | exact rfl | (with_reducible exact EvAll.nil) | (focus (repeat (first | apply EvAll.cons | exact EvAll.nil | (apply EvC.gv; exact rfl; (with_reducible first | exact Imp.refl _ | (apply Imp.left; exact Imp.refl _) | (apply Imp.right; exact Imp.refl _) | (apply Imp.left; apply Imp.left; exact Imp.refl _))) | (apply EvC.now; exact rfl))); done) | (first | exact ext_tok _ | exact ext_stm _ _ _) | (focus (repeat (first | apply List.Mem.head | apply List.Mem.tail | apply List.mem_append_right)))); (exact HW.out.bm); exact rfl; (simp only [List.set_cons_succ, List.set_cons_zero]; exact rfl))
    | ((first | (with_reducible apply q_pl) | ((with_reducible apply q_gd); (first | (apply GdBy.gt; exact rfl; exact rfl) | (apply GdBy.gf; exact rfl; exact rfl) | (apply GdBy.t; exact rfl; exact rfl) | (apply GdBy.f; exact rfl; exact rfl)))); (with_reducible apply t_call Tryd.call18); (first | (apply EvC.gv; exact rfl; (with_reducible first | exact Imp.refl _ | (apply Imp.left; exact Imp.refl _) | (apply Imp.right; exact Imp.refl _) | (apply Imp.left; apply Imp.left; exact Imp.refl _))) | (apply EvC.now; exact rfl) | exact rfl | (with_reducible exact EvAll.nil) | (focus (repeat (first | apply EvAll.cons | exact EvAll.nil | (apply EvC.gv; exact rfl; (with_reducible first | exact Imp.refl _ | (apply Imp.left; exact Imp.refl _) | (apply Imp.right; exact Imp.refl _) | (apply Imp.left; apply Imp.left; exact Imp.refl _))) | (apply EvC.now; exact rfl))); done) | (first | exact ext_tok _ | exact ext_stm _ _ _) | (focus (repeat (first | apply List.Mem.head | apply List.Mem.tail | apply List.mem_append_right)))); (intro hcc w hC; exact tame_below (HS.out _) hC); (simp only [List.set_cons_succ, List.set_cons_zero]; exact rfl))
    | ((first | (with_reducible apply q_pl) | ((with_reducible apply q_gd); (first | (apply GdBy.gt; exact rfl; exact rfl) | (apply GdBy.gf; exact rfl; exact rfl) | (apply GdBy.t; exact rfl; exact rfl) | (apply GdBy.f; exact rfl; exact rfl)))); (first | ((with_reducible first | apply t_move | apply t_assign | apply t_and | apply t_or | apply t_cmp | apply t_not | apply t_addr (fTok _ (by decide)) | apply t_addr (fStm _ (by decide)) | apply t_one tIntL | apply t_one tStrO | apply t_one tBoolL | apply t_one tStrsL | apply t_one tPartsL | apply t_part tTok | apply t_part tStm) <;> (first | (apply EvC.gv; exact rfl; (with_reducible first | exact Imp.refl _ | (apply Imp.left; exact Imp.refl _) | (apply Imp.right; exact Imp.refl _) | (apply Imp.left; apply Imp.left; exact Imp.refl _))) | (apply EvC.now; exact rfl) | exact rfl | (with_reducible exact EvAll.nil) | (focus (repeat (first | apply EvAll.cons | exact EvAll.nil | (apply EvC.gv; exact rfl; (with_reducible first | exact Imp.refl _ | (apply Imp.left; exact Imp.refl _) | (apply Imp.right; exact Imp.refl _) | (apply Imp.left; apply Imp.left; exact Imp.refl _))) | (apply EvC.now; exact rfl))); done) | (first | exact ext_tok _ | exact ext_stm _ _ _) | (focus (repeat (first | apply List.Mem.head | apply List.Mem.tail | apply List.mem_append_right)))))); (simp only [List.set_cons_succ, List.set_cons_zero]; exact rfl))
    | ((with_reducible apply q_gd); (first | (apply GdBy.gt; exact rfl; exact rfl) | (apply GdBy.gf; exact rfl; exact rfl) | (apply GdBy.t; exact rfl; exact rfl) | (apply GdBy.f; exact rfl; exact rfl)); ((with_reducible apply t_num) <;> (first | (apply EvC.gv; exact rfl; (with_reducible first | exact Imp.refl _ | (apply Imp.left; exact Imp.refl _) | (apply Imp.right; exact Imp.refl _) | (apply Imp.left; apply Imp.left; exact Imp.refl _))) | (apply EvC.now; exact rfl) | exact rfl | (with_reducible exact EvAll.nil) | (focus (repeat (first | apply EvAll.cons | exact EvAll.nil | (apply EvC.gv; exact rfl; (with_reducible first | exact Imp.refl _ | (apply Imp.left; exact Imp.refl _) | (apply Imp.right; exact Imp.refl _) | (apply Imp.left; apply Imp.left; exact Imp.refl _))) | (apply EvC.now; exact rfl))); done) | (first | exact ext_tok _ | exact ext_stm _ _ _) | (focus (repeat (first | apply List.Mem.head | apply List.Mem.tail | apply List.mem_append_right))))); (simp only [List.set_cons_succ, List.set_cons_zero]; exact rfl))
    | ((with_reducible apply wpT1_gpure); (first | (apply GdBy.gt; exact rfl; exact rfl) | (apply GdBy.gf; exact rfl; exact rfl) | (apply GdBy.t; exact rfl; exact rfl) | (apply GdBy.f; exact rfl; exact rfl)); intro K hK; go_simp; refine hK _ ?_; clear hK K; simp only [List.set_cons_succ, List.set_cons_zero])
    | ((with_reducible apply wpT1_pure); exact rfl; intro K hK; go_simp; refine hK _ ?_; clear hK K; simp only [List.set_cons_succ, List.set_cons_zero]))
    refine wpT_nil ?_
    clear hR; intro w hR
    go_upto_if 20 with fail
    clear hw HG
    go_cut [1] (fun v wr => ∃ (st : StmZ) (l1 : List TokZ), TokL w0 v l1 ∧ Own w0 wr ((g, encSt st nilS nilS, 26) :: L) ∧ l1.length ≤ n ∧ st.op = [] ∧ bytesOk st.label ∧ aheadZ l = (⟨st.label, st.colon, presZ l1, [], []⟩, l1.dropWhile prefT))
    case first =>
      refine wp_cond_at (nm := labelL l) rfl hlab.symm (fun hy => ?_) (fun hy => ?_)
      · have hrd := hT.rd
        refine wp_region_some hR L (List.sublist_cons_self _ _) [0, 1, 2, 3, 4, 5, 6, 7, 8, 9] 5 (by kernel_rfl) (by kernel_rfl) (by kernel_rfl) rfl ?_
        clear hR; intro hR
        repeat (refine wpT_step rfl ?_; first
    | ((first | (with_reducible apply q_pl) | ((with_reducible apply q_gd); (first | (apply GdBy.gt; exact rfl; exact rfl) | (apply GdBy.gf; exact rfl; exact rfl) | (apply GdBy.t; exact rfl; exact rfl) | (apply GdBy.f; exact rfl; exact rfl)))); (with_reducible apply t_nilck); (first | (apply EvC.gv; exact rfl; (with_reducible first | exact Imp.refl _ | (apply Imp.left; exact Imp.refl _) | (apply Imp.right; exact Imp.refl _) | (apply Imp.left; apply Imp.left; exact Imp.refl _))) | (apply EvC.now; exact rfl) | exact rfl | (with_reducible exact EvAll.nil) | (focus (repeat (first | apply EvAll.cons | exact EvAll.nil | (apply EvC.gv; exact rfl; (with_reducible first | exact Imp.refl _ | (apply Imp.left; exact Imp.refl _) | (apply Imp.right; exact Imp.refl _) | (apply Imp.left; apply Imp.left; exact Imp.refl _))) | (apply EvC.now; exact rfl))); done) | (first | exact ext_tok _ | exact ext_stm _ _ _) | (focus (repeat (first | apply List.Mem.head | apply List.Mem.tail | apply List.mem_append_right)))); (simp only [List.set_cons_succ, List.set_cons_zero]; exact rfl))
    | ((first | (with_reducible apply q_pl) | ((with_reducible apply q_gd); (first | (apply GdBy.gt; exact rfl; exact rfl) | (apply GdBy.gf; exact rfl; exact rfl) | (apply GdBy.t; exact rfl; exact rfl) | (apply GdBy.f; exact rfl; exact rfl)))); (with_reducible apply t_tailRd (i := 2) Tryd.underlying31 iTok); (first | (apply EvC.gv; exact rfl; (with_reducible first | exact Imp.refl _ | (apply Imp.left; exact Imp.refl _) | (apply Imp.right; exact Imp.refl _) | (apply Imp.left; apply Imp.left; exact Imp.refl _))) | (apply EvC.now; exact rfl) | exact rfl | (with_reducible exact EvAll.nil) | (focus (repeat (first | apply EvAll.cons | exact EvAll.nil | (apply EvC.gv; exact rfl; (with_reducible first | exact Imp.refl _ | (apply Imp.left; exact Imp.refl _) | (apply Imp.right; exact Imp.refl _) | (apply Imp.left; apply Imp.left; exact Imp.refl _))) | (apply EvC.now; exact rfl))); done) | (first | exact ext_tok _ | exact ext_stm _ _ _) | (focus (repeat (first | apply List.Mem.head | apply List.Mem.tail | apply List.mem_append_right)))); (first | (apply EvC.gv; exact rfl; (with_reducible first | exact Imp.refl _ | (apply Imp.left; exact Imp.refl _) | (apply Imp.right; exact Imp.refl _) | (apply Imp.left; apply Imp.left; exact Imp.refl _))) | (apply EvC.now; exact rfl) | exact rfl | (with_reducible exact EvAll.nil) | (focus (repeat (first | apply EvAll.cons | exact EvAll.nil | (apply EvC.gv; exact rfl; (with_reducible first | exact Imp.refl _ | (apply Imp.left; exact Imp.refl _) | (apply Imp.right; exact Imp.refl _) | (apply Imp.left; apply Imp.left; exact Imp.refl _))) | (apply EvC.now; exact rfl))); done) | (first | exact ext_tok _ | exact ext_stm _ _ _) | (focus (repeat (first | apply List.Mem.head | apply List.Mem.tail | apply List.mem_append_right)))); exact hrd; exact rfl; (exact h2); (simp only [List.set_cons_succ, List.set_cons_zero]; exact rfl))
    | ((with_reducible apply q_pl); (with_reducible apply t_len Tryd.underlying31); (apply EvC.now; exact rfl); (simp only [List.set_cons_succ, List.set_cons_zero]; exact rfl))
    | ((with_reducible apply q_pl); (with_reducible apply t_cmp (op := .geq)); (apply EvC.now; exact rfl); (apply EvC.now; exact rfl); exact HG.out; (simp only [List.set_cons_succ, List.set_cons_zero]; exact rfl))
    | ((first | (with_reducible apply q_pl) | ((with_reducible apply q_gd); (first | (apply GdBy.gt; exact rfl; exact rfl) | (apply GdBy.gf; exact rfl; exact rfl) | (apply GdBy.t; exact rfl; exact rfl) | (apply GdBy.f; exact rfl; exact rfl)))); (with_reducible apply t_six Tryd.underlying31 iTok); (first | (apply EvC.gv; exact rfl; (with_reducible first | exact Imp.refl _ | (apply Imp.left; exact Imp.refl _) | (apply Imp.right; exact Imp.refl _) | (apply Imp.left; apply Imp.left; exact Imp.refl _))) | (apply EvC.now; exact rfl) | exact rfl | (with_reducible exact EvAll.nil) | (focus (repeat (first | apply EvAll.cons | exact EvAll.nil | (apply EvC.gv; exact rfl; (with_reducible first | exact Imp.refl _ | (apply Imp.left; exact Imp.refl _) | (apply Imp.right; exact Imp.refl _) | (apply Imp.left; apply Imp.left; exact Imp.refl _))) | (apply EvC.now; exact rfl))); done) | (first | exact ext_tok _ | exact ext_stm _ _ _) | (focus (repeat (first | apply List.Mem.head | apply List.Mem.tail | apply List.mem_append_right)))); (first | (apply EvC.gv; exact rfl; (with_reducible first | exact Imp.refl _ | (apply Imp.left; exact Imp.refl _) | (apply Imp.right; exact Imp.refl _) | (apply Imp.left; apply Imp.left; exact Imp.refl _))) | (apply EvC.now; exact rfl) | exact rfl | (with_reducible exact EvAll.nil) | (focus (repeat (first | apply EvAll.cons | exact EvAll.nil | (apply EvC.gv; exact rfl; (with_reducible first | exact Imp.refl _ | (apply Imp.left; exact Imp.refl _) | (apply Imp.right; exact Imp.refl _) | (apply Imp.left; apply Imp.left; exact Imp.refl _))) | (apply EvC.now; exact rfl))); done) | (first | exact ext_tok _ | exact ext_stm _ _ _) | (focus (repeat (first | apply List.Mem.head | apply List.Mem.tail | apply List.mem_append_right)))); (with_reducible first | exact HW.out.i0 | exact HW.out.i1); (simp only [List.set_cons_succ, List.set_cons_zero]; exact rfl))
    | ((first | (with_reducible apply q_pl) | ((with_reducible apply q_gd); (first | (apply GdBy.gt; exact rfl; exact rfl) | (apply GdBy.gf; exact rfl; exact rfl) | (apply GdBy.t; exact rfl; exact rfl) | (apply GdBy.f; exact rfl; exact rfl)))); (with_reducible apply t_fieldA (fTokA 0 (by decide))); (first | (apply EvC.gv; exact rfl; (with_reducible first | exact Imp.refl _ | (apply Imp.left; exact Imp.refl _) | (apply Imp.right; exact Imp.refl _) | (apply Imp.left; apply Imp.left; exact Imp.refl _))) | (apply EvC.now; exact rfl) | exact rfl | (with_reducible exact EvAll.nil) | (focus (repeat (first | apply EvAll.cons | exact EvAll.nil | (apply EvC.gv; exact rfl; (with_reducible first | exact Imp.refl _ | (apply Imp.left; exact Imp.refl _) | (apply Imp.right; exact Imp.refl _) | (apply Imp.left; apply Imp.left; exact Imp.refl _))) | (apply EvC.now; exact rfl))); done) | (first | exact ext_tok _ | exact ext_stm _ _ _) | (focus (repeat (first | apply List.Mem.head | apply List.Mem.tail | apply List.mem_append_right)))); (simp only [List.set_cons_succ, List.set_cons_zero]; exact rfl))
    | ((first | (with_reducible apply q_pl) | ((with_reducible apply q_gd); (first | (apply GdBy.gt; exact rfl; exact rfl) | (apply GdBy.gf; exact rfl; exact rfl) | (apply GdBy.t; exact rfl; exact rfl) | (apply GdBy.f; exact rfl; exact rfl)))); (with_reducible apply t_fieldA (fTokA 1 (by decide))); (first | (apply EvC.gv; exact rfl; (with_reducible first | exact Imp.refl _ | (apply Imp.left; exact Imp.refl _) | (apply Imp.right; exact Imp.refl _) | (apply Imp.left; apply Imp.left; exact Imp.refl _))) | (apply EvC.now; exact rfl) | exact rfl | (with_reducible exact EvAll.nil) | (focus (repeat (first | apply EvAll.cons | exact EvAll.nil | (apply EvC.gv; exact rfl; (with_reducible first | exact Imp.refl _ | (apply Imp.left; exact Imp.refl _) | (apply Imp.right; exact Imp.refl _) | (apply Imp.left; apply Imp.left; exact Imp.refl _))) | (apply EvC.now; exact rfl))); done) | (first | exact ext_tok _ | exact ext_stm _ _ _) | (focus (repeat (first | apply List.Mem.head | apply List.Mem.tail | apply List.mem_append_right)))); (simp only [List.set_cons_succ, List.set_cons_zero]; exact rfl))
    | ((first | (with_reducible apply q_pl) | ((with_reducible apply q_gd); (first | (apply GdBy.gt; exact rfl; exact rfl) | (apply GdBy.gf; exact rfl; exact rfl) | (apply GdBy.t; exact rfl; exact rfl) | (apply GdBy.f; exact rfl; exact rfl)))); (with_reducible apply t_oldOne tIntL); (first | (apply EvC.gv; exact rfl; (with_reducible first | exact Imp.refl _ | (apply Imp.left; exact Imp.refl _) | (apply Imp.right; exact Imp.refl _) | (apply Imp.left; apply Imp.left; exact Imp.refl _))) | (apply EvC.now; exact rfl) | exact rfl | (with_reducible exact EvAll.nil) | (focus (repeat (first | apply EvAll.cons | exact EvAll.nil | (apply EvC.gv; exact rfl; (with_reducible first | exact Imp.refl _ | (apply Imp.left; exact Imp.refl _) | (apply Imp.right; exact Imp.refl _) | (apply Imp.left; apply Imp.left; exact Imp.refl _))) | (apply EvC.now; exact rfl))); done) | (first | exact ext_tok _ | exact ext_stm _ _ _) | (focus (repeat (first | apply List.Mem.head | apply List.Mem.tail | apply List.mem_append_right)))); (with_reducible exact HW.out.a0); exact rfl; (simp only [List.set_cons_succ, List.set_cons_zero]; exact rfl))
    | ((first | (with_reducible apply q_pl) | ((with_reducible apply q_gd); (first | (apply GdBy.gt; exact rfl; exact rfl) | (apply GdBy.gf; exact rfl; exact rfl) | (apply GdBy.t; exact rfl; exact rfl) | (apply GdBy.f; exact rfl; exact rfl)))); (with_reducible apply t_oldOne tStrO); (first | (apply EvC.gv; exact rfl; (with_reducible first | exact Imp.refl _ | (apply Imp.left; exact Imp.refl _) | (apply Imp.right; exact Imp.refl _) | (apply Imp.left; apply Imp.left; exact Imp.refl _))) | (apply EvC.now; exact rfl) | exact rfl | (with_reducible exact EvAll.nil) | (focus (repeat (first | apply EvAll.cons | exact EvAll.nil | (apply EvC.gv; exact rfl; (with_reducible first | exact Imp.refl _ | (apply Imp.left; exact Imp.refl _) | (apply Imp.right; exact Imp.refl _) | (apply Imp.left; apply Imp.left; exact Imp.refl _))) | (apply EvC.now; exact rfl))); done) | (first | exact ext_tok _ | exact ext_stm _ _ _) | (focus (repeat (first | apply List.Mem.head | apply List.Mem.tail | apply List.mem_append_right)))); (with_reducible first | exact HW.out.a1 | exact HW.out.b1); exact rfl; (simp only [List.set_cons_succ, List.set_cons_zero]; exact rfl))
    | ((first | (with_reducible apply q_pl) | ((with_reducible apply q_gd); (first | (apply GdBy.gt; exact rfl; exact rfl) | (apply GdBy.gf; exact rfl; exact rfl) | (apply GdBy.t; exact rfl; exact rfl) | (apply GdBy.f; exact rfl; exact rfl)))); (with_reducible apply t_oldMany tTok); (first | (apply EvC.gv; exact rfl; (with_reducible first | exact Imp.refl _ | (apply Imp.left; exact Imp.refl _) | (apply Imp.right; exact Imp.refl _) | (apply Imp.left; apply Imp.left; exact Imp.refl _))) | (apply EvC.now; exact rfl) | exact rfl | (with_reducible exact EvAll.nil) | (focus (repeat (first | apply EvAll.cons | exact EvAll.nil | (apply EvC.gv; exact rfl; (with_reducible first | exact Imp.refl _ | (apply Imp.left; exact Imp.refl _) | (apply Imp.right; exact Imp.refl _) | (apply Imp.left; apply Imp.left; exact Imp.refl _))) | (apply EvC.now; exact rfl))); done) | (first | exact ext_tok _ | exact ext_stm _ _ _) | (focus (repeat (first | apply List.Mem.head | apply List.Mem.tail | apply List.mem_append_right)))); (exact HW.out.bm); exact rfl; (simp only [List.set_cons_succ, List.set_cons_zero]; exact rfl))
    | ((first | (with_reducible apply q_pl) | ((with_reducible apply q_gd); (first | (apply GdBy.gt; exact rfl; exact rfl) | (apply GdBy.gf; exact rfl; exact rfl) | (apply GdBy.t; exact rfl; exact rfl) | (apply GdBy.f; exact rfl; exact rfl)))); (first | ((with_reducible first | apply t_move | apply t_assign | apply t_and | apply t_or | apply t_cmp | apply t_not | apply t_addr (fTok _ (by decide)) | apply t_addr (fStm _ (by decide)) | apply t_one tIntL | apply t_one tStrO | apply t_one tBoolL | apply t_one tStrsL | apply t_one tPartsL | apply t_part tTok | apply t_part tStm) <;> (first | (apply EvC.gv; exact rfl; (with_reducible first | exact Imp.refl _ | (apply Imp.left; exact Imp.refl _) | (apply Imp.right; exact Imp.refl _) | (apply Imp.left; apply Imp.left; exact Imp.refl _))) | (apply EvC.now; exact rfl) | exact rfl | (with_reducible exact EvAll.nil) | (focus (repeat (first | apply EvAll.cons | exact EvAll.nil | (apply EvC.gv; exact rfl; (with_reducible first | exact Imp.refl _ | (apply Imp.left; exact Imp.refl _) | (apply Imp.right; exact Imp.refl _) | (apply Imp.left; apply Imp.left; exact Imp.refl _))) | (apply EvC.now; exact rfl))); done) | (first | exact ext_tok _ | exact ext_stm _ _ _) | (focus (repeat (first | apply List.Mem.head | apply List.Mem.tail | apply List.mem_append_right)))))); (simp only [List.set_cons_succ, List.set_cons_zero]; exact rfl)))
        refine wpT_nil ?_
        refine wpG_put1 hR tStrO (i := 10) (by decide +kernel) rfl rfl rfl (.head _) (put_sLabel _ _ _ _) (Nat.le_of_ble_eq_true rfl) rfl .head (List.sublist_cons_self _ _) ?_
        clear hR; intro w hR
        refine wpG_q hR (i := 11) (by decide +kernel) rfl rfl (t_nilck (EvC.now rfl)) (by (simp only [List.set_cons_succ, List.set_cons_zero]; exact rfl)) (List.sublist_cons_self _ _) ?_
        clear hR; intro w hR
        refine wpG_q hR (i := 12) (by decide +kernel) rfl rfl (t_addr (fStm 1 (by decide)) (EvC.now rfl)) (by (simp only [List.set_cons_succ, List.set_cons_zero]; exact rfl)) (List.sublist_cons_self _ _) ?_
        clear hR; intro w hR
        refine wpG_put1 hR tBoolL (i := 13) (by decide +kernel) rfl rfl rfl (.head _) (put_sColon _ _ _ _) (Nat.le_of_ble_eq_true rfl) rfl .head (List.sublist_cons_self _ _) ?_
        clear hR; intro w hR
        refine wpG_q hR (i := 14) (by decide +kernel) rfl rfl (t_assign (EvC.now rfl)) (by (simp only [List.set_cons_succ, List.set_cons_zero]; exact rfl)) (List.sublist_cons_self _ _) ?_
        clear hR; intro w hR
        refine wpG_end hR (by decide +kernel) ?_
        clear hR; intro w hR
        go_wp2_with fail
        go_meet
        exact ⟨⟨a.s, true, [], [], []⟩, l.drop 2, hT.tail h2, hR, by rw [List.length_drop]; omega, rfl, hao, ahead_yes ha hy⟩
      · go_wp2_with fail
        go_meet
        exact ⟨noStm, l, hT, hR, by omega, rfl, bytesOk.nil, ahead_no hy⟩
    case rest =>
      clear hR hT HW HS hlab ha hb
      obtain ⟨st, l1, hT1, hR, hn1, hop, hlo, haz⟩ := hcut
      obtain ⟨ps, hps1⟩ : ∃ ps, presZ l1 = ps := ⟨_, rfl⟩
      obtain ⟨rest, hrs1⟩ : ∃ rest, l1.dropWhile prefT = rest := ⟨_, rfl⟩
      rw [hps1, hrs1] at haz
      go_wp2_with fail
      go_loopw [1] (fun v wr => PreIs w0 g L st ps rest n v wr) (fun v _ => lenV v)
      case atStart => exact ⟨l1, [], [], nilS, hT1, hR, Sl.nil _ _, (fun _ h => nomatch h), by simpa using hn1, hps1, hrs1⟩
      case round =>
        clear hR hT1 hps1 hrs1 hn1
        obtain ⟨m, ds, sp, vp, hTm, hR, hS, hdo, hdn, hps, hrs⟩ := hrel
        have hrd := hTm.rd
        cases hm : m with
        | nil =>
          have hst := pres_stop (.inl hm)
          have HG := Lib.hid (show cmpB .gtr (m.length : Int) 0 = some false by rw [hm]; rfl)
          clear hm
          go_wp2_with (first
          | ((with_reducible apply q_ls hR); exact rfl; (with_reducible apply t_lenRd Tryd.underlying31); (apply EvC.now; exact rfl); exact hrd; (simp only [List.set_cons_succ, List.set_cons_zero]; exact rfl); clear hR; intro w hR)
          | ((with_reducible apply q_ls hR); exact rfl; (with_reducible apply t_cmp (op := .gtr)); (apply EvC.now; exact rfl); (apply EvC.now; exact rfl); exact HG.out; (simp only [List.set_cons_succ, List.set_cons_zero]; exact rfl); clear hR; intro w hR))
          go_ret
          rw [hst.1, List.append_nil] at hps
          rw [hst.2] at hrs
          subst hps hrs
          rw [haz]
          have hE : encSt st vp nilS = encSt ⟨st.label, st.colon, ds, [], []⟩ vp nilS := encSt_same _ _ _ _ rfl rfl hop
          rw [hE] at hR
          exact ⟨sp, vp, _, rfl, hR, hS, hTm, hdo, hlo⟩
        | cons t r =>
          have HM := Lib.hid hm
          have ht : m[0]? = some t := by rw [hm]; rfl
          have hm1 : 1 ≤ m.length := by rw [hm]; simp
          have hd1 : m.drop 1 = r := by rw [hm]; rfl
          obtain ⟨hto, a, cap, rfl, hcell⟩ := hTm.el ht
          have HG := Lib.hid (show cmpB .gtr (m.length : Int) 0 = some true from congrArg some (decide_eq_true (by omega)))
          have HIX := Lib.hid (show (0 : Int) ≤ 0 ∧ (0 : Int) < m.length by omega)
          have HC0 := Lib.hid (show w0.cell? ((a.add ((0 : Int).toNat * 4)).add 0) = some (.int .i64 t.k) from hcell 0 _ rfl)
          have HC1 := Lib.hid (show w0.cell? ((a.add ((0 : Int).toNat * 4)).add 1) = some (.string (strOfNums t.s)) from hcell 1 _ rfl)
          subst hd1
          clear hm ht hcell
          by_cases hk : t.k = 1
          · have HK := Lib.hid (show cmpB .eql t.k 1 = some true from congrArg some (decide_eq_true hk))
            have HP := Lib.hid (prefS_any hto)
            cases hpw : prefW t.s with
            | true =>
              rw [hpw] at HP
              have HPT := Lib.hid (show prefT t = true by unfold prefT nameT; rw [hpw, decide_eq_true hk]; rfl)
              clear hpw hk
              go_upto_region 4 with (first
          | ((with_reducible apply q_ls hR); exact rfl; (with_reducible apply t_len Tryd.underlying31); (apply EvC.now; exact rfl); (simp only [List.set_cons_succ, List.set_cons_zero]; exact rfl); clear hR; intro w hR)
          | ((with_reducible apply q_ls hR); exact rfl; (with_reducible apply t_cmp (op := .gtr)); (apply EvC.now; exact rfl); (apply EvC.now; exact rfl); exact HG.out; (simp only [List.set_cons_succ, List.set_cons_zero]; exact rfl); clear hR; intro w hR)
          | ((with_reducible apply q_ls hR); exact rfl; (with_reducible apply t_cmp (op := .eql)); (apply EvC.now; exact rfl); (apply EvC.now; exact rfl); exact HK.out; (simp only [List.set_cons_succ, List.set_cons_zero]; exact rfl); clear hR; intro w hR)
          | ((with_reducible apply q_ls hR); exact rfl; (with_reducible apply t_six Tryd.underlying31 iTok); (apply EvC.now; exact rfl); (apply EvC.now; exact rfl); exact HIX.out; (simp only [List.set_cons_succ, List.set_cons_zero]; exact rfl); clear hR; intro w hR)
          | ((with_reducible apply q_ls hR); exact rfl; (with_reducible apply t_fieldA (fTokA 0 (by decide))); (apply EvC.now; exact rfl); (simp only [List.set_cons_succ, List.set_cons_zero]; exact rfl); clear hR; intro w hR)
          | ((with_reducible apply q_ls hR); exact rfl; (with_reducible apply t_fieldA (fTokA 1 (by decide))); (apply EvC.now; exact rfl); (simp only [List.set_cons_succ, List.set_cons_zero]; exact rfl); clear hR; intro w hR)
          | ((with_reducible apply q_ls hR); exact rfl; (with_reducible apply t_oldOne tIntL); (apply EvC.now; exact rfl); (with_reducible exact HC0.out); exact rfl; (simp only [List.set_cons_succ, List.set_cons_zero]; exact rfl); clear hR; intro w hR)
          | ((with_reducible apply q_ls hR); exact rfl; (with_reducible apply t_oldOne tStrO); (apply EvC.now; exact rfl); (with_reducible exact HC1.out); exact rfl; (simp only [List.set_cons_succ, List.set_cons_zero]; exact rfl); clear hR; intro w hR)
          | (go_at_call 12; refine (HP.out _).mono ?_; rintro e w' ⟨rfl, rfl⟩))
              refine wp_region_some hR [] (List.nil_sublist _) [0, 1, 2, 3, 5, 6, 7, 8, 11, 12] 7 (by kernel_rfl) (by kernel_rfl) (by kernel_rfl) rfl ?_
              clear hR; intro hR
              repeat (refine wpT_step rfl ?_; first
          | ((first | (with_reducible apply q_pl) | ((with_reducible apply q_gd); (first | (apply GdBy.gt; exact rfl; exact rfl) | (apply GdBy.gf; exact rfl; exact rfl) | (apply GdBy.t; exact rfl; exact rfl) | (apply GdBy.f; exact rfl; exact rfl)))); (with_reducible apply t_nilck); (first | (apply EvC.gv; exact rfl; (with_reducible first | exact Imp.refl _ | (apply Imp.left; exact Imp.refl _) | (apply Imp.right; exact Imp.refl _) | (apply Imp.left; apply Imp.left; exact Imp.refl _))) | (apply EvC.now; exact rfl) | exact rfl | (with_reducible exact EvAll.nil) | (focus (repeat (first | apply EvAll.cons | exact EvAll.nil | (apply EvC.gv; exact rfl; (with_reducible first | exact Imp.refl _ | (apply Imp.left; exact Imp.refl _) | (apply Imp.right; exact Imp.refl _) | (apply Imp.left; apply Imp.left; exact Imp.refl _))) | (apply EvC.now; exact rfl))); done) | (first | exact ext_tok _ | exact ext_stm _ _ _) | (focus (repeat (first | apply List.Mem.head | apply List.Mem.tail | apply List.mem_append_right)))); (simp only [List.set_cons_succ, List.set_cons_zero]; exact rfl))
          | ((first | (with_reducible apply q_pl) | ((with_reducible apply q_gd); (first | (apply GdBy.gt; exact rfl; exact rfl) | (apply GdBy.gf; exact rfl; exact rfl) | (apply GdBy.t; exact rfl; exact rfl) | (apply GdBy.f; exact rfl; exact rfl)))); (with_reducible apply t_addr (fStm _ (by decide))); (first | (apply EvC.gv; exact rfl; (with_reducible first | exact Imp.refl _ | (apply Imp.left; exact Imp.refl _) | (apply Imp.right; exact Imp.refl _) | (apply Imp.left; apply Imp.left; exact Imp.refl _))) | (apply EvC.now; exact rfl) | exact rfl | (with_reducible exact EvAll.nil) | (focus (repeat (first | apply EvAll.cons | exact EvAll.nil | (apply EvC.gv; exact rfl; (with_reducible first | exact Imp.refl _ | (apply Imp.left; exact Imp.refl _) | (apply Imp.right; exact Imp.refl _) | (apply Imp.left; apply Imp.left; exact Imp.refl _))) | (apply EvC.now; exact rfl))); done) | (first | exact ext_tok _ | exact ext_stm _ _ _) | (focus (repeat (first | apply List.Mem.head | apply List.Mem.tail | apply List.mem_append_right)))); (simp only [List.set_cons_succ, List.set_cons_zero]; exact rfl))
          | ((first | (with_reducible apply q_pl) | ((with_reducible apply q_gd); (first | (apply GdBy.gt; exact rfl; exact rfl) | (apply GdBy.gf; exact rfl; exact rfl) | (apply GdBy.t; exact rfl; exact rfl) | (apply GdBy.f; exact rfl; exact rfl)))); (with_reducible apply t_six Tryd.underlying31 iTok); (first | (apply EvC.gv; exact rfl; (with_reducible first | exact Imp.refl _ | (apply Imp.left; exact Imp.refl _) | (apply Imp.right; exact Imp.refl _) | (apply Imp.left; apply Imp.left; exact Imp.refl _))) | (apply EvC.now; exact rfl) | exact rfl | (with_reducible exact EvAll.nil) | (focus (repeat (first | apply EvAll.cons | exact EvAll.nil | (apply EvC.gv; exact rfl; (with_reducible first | exact Imp.refl _ | (apply Imp.left; exact Imp.refl _) | (apply Imp.right; exact Imp.refl _) | (apply Imp.left; apply Imp.left; exact Imp.refl _))) | (apply EvC.now; exact rfl))); done) | (first | exact ext_tok _ | exact ext_stm _ _ _) | (focus (repeat (first | apply List.Mem.head | apply List.Mem.tail | apply List.mem_append_right)))); (first | (apply EvC.gv; exact rfl; (with_reducible first | exact Imp.refl _ | (apply Imp.left; exact Imp.refl _) | (apply Imp.right; exact Imp.refl _) | (apply Imp.left; apply Imp.left; exact Imp.refl _))) | (apply EvC.now; exact rfl) | exact rfl | (with_reducible exact EvAll.nil) | (focus (repeat (first | apply EvAll.cons | exact EvAll.nil | (apply EvC.gv; exact rfl; (with_reducible first | exact Imp.refl _ | (apply Imp.left; exact Imp.refl _) | (apply Imp.right; exact Imp.refl _) | (apply Imp.left; apply Imp.left; exact Imp.refl _))) | (apply EvC.now; exact rfl))); done) | (first | exact ext_tok _ | exact ext_stm _ _ _) | (focus (repeat (first | apply List.Mem.head | apply List.Mem.tail | apply List.mem_append_right)))); (exact HIX.out); (simp only [List.set_cons_succ, List.set_cons_zero]; exact rfl))
          | ((first | (with_reducible apply q_pl) | ((with_reducible apply q_gd); (first | (apply GdBy.gt; exact rfl; exact rfl) | (apply GdBy.gf; exact rfl; exact rfl) | (apply GdBy.t; exact rfl; exact rfl) | (apply GdBy.f; exact rfl; exact rfl)))); (with_reducible apply t_fieldA (fTokA 1 (by decide))); (first | (apply EvC.gv; exact rfl; (with_reducible first | exact Imp.refl _ | (apply Imp.left; exact Imp.refl _) | (apply Imp.right; exact Imp.refl _) | (apply Imp.left; apply Imp.left; exact Imp.refl _))) | (apply EvC.now; exact rfl) | exact rfl | (with_reducible exact EvAll.nil) | (focus (repeat (first | apply EvAll.cons | exact EvAll.nil | (apply EvC.gv; exact rfl; (with_reducible first | exact Imp.refl _ | (apply Imp.left; exact Imp.refl _) | (apply Imp.right; exact Imp.refl _) | (apply Imp.left; apply Imp.left; exact Imp.refl _))) | (apply EvC.now; exact rfl))); done) | (first | exact ext_tok _ | exact ext_stm _ _ _) | (focus (repeat (first | apply List.Mem.head | apply List.Mem.tail | apply List.mem_append_right)))); (simp only [List.set_cons_succ, List.set_cons_zero]; exact rfl))
          | ((first | (with_reducible apply q_pl) | ((with_reducible apply q_gd); (first | (apply GdBy.gt; exact rfl; exact rfl) | (apply GdBy.gf; exact rfl; exact rfl) | (apply GdBy.t; exact rfl; exact rfl) | (apply GdBy.f; exact rfl; exact rfl)))); (with_reducible apply t_oldOne tStrO); (first | (apply EvC.gv; exact rfl; (with_reducible first | exact Imp.refl _ | (apply Imp.left; exact Imp.refl _) | (apply Imp.right; exact Imp.refl _) | (apply Imp.left; apply Imp.left; exact Imp.refl _))) | (apply EvC.now; exact rfl) | exact rfl | (with_reducible exact EvAll.nil) | (focus (repeat (first | apply EvAll.cons | exact EvAll.nil | (apply EvC.gv; exact rfl; (with_reducible first | exact Imp.refl _ | (apply Imp.left; exact Imp.refl _) | (apply Imp.right; exact Imp.refl _) | (apply Imp.left; apply Imp.left; exact Imp.refl _))) | (apply EvC.now; exact rfl))); done) | (first | exact ext_tok _ | exact ext_stm _ _ _) | (focus (repeat (first | apply List.Mem.head | apply List.Mem.tail | apply List.mem_append_right)))); (exact HC1.out); exact rfl; (simp only [List.set_cons_succ, List.set_cons_zero]; exact rfl))
          | ((first | (with_reducible apply q_pl) | ((with_reducible apply q_gd); (first | (apply GdBy.gt; exact rfl; exact rfl) | (apply GdBy.gf; exact rfl; exact rfl) | (apply GdBy.t; exact rfl; exact rfl) | (apply GdBy.f; exact rfl; exact rfl)))); (with_reducible apply t_tailRd (i := 1) Tryd.underlying31 iTok); (first | (apply EvC.gv; exact rfl; (with_reducible first | exact Imp.refl _ | (apply Imp.left; exact Imp.refl _) | (apply Imp.right; exact Imp.refl _) | (apply Imp.left; apply Imp.left; exact Imp.refl _))) | (apply EvC.now; exact rfl) | exact rfl | (with_reducible exact EvAll.nil) | (focus (repeat (first | apply EvAll.cons | exact EvAll.nil | (apply EvC.gv; exact rfl; (with_reducible first | exact Imp.refl _ | (apply Imp.left; exact Imp.refl _) | (apply Imp.right; exact Imp.refl _) | (apply Imp.left; apply Imp.left; exact Imp.refl _))) | (apply EvC.now; exact rfl))); done) | (first | exact ext_tok _ | exact ext_stm _ _ _) | (focus (repeat (first | apply List.Mem.head | apply List.Mem.tail | apply List.mem_append_right)))); (first | (apply EvC.gv; exact rfl; (with_reducible first | exact Imp.refl _ | (apply Imp.left; exact Imp.refl _) | (apply Imp.right; exact Imp.refl _) | (apply Imp.left; apply Imp.left; exact Imp.refl _))) | (apply EvC.now; exact rfl) | exact rfl | (with_reducible exact EvAll.nil) | (focus (repeat (first | apply EvAll.cons | exact EvAll.nil | (apply EvC.gv; exact rfl; (with_reducible first | exact Imp.refl _ | (apply Imp.left; exact Imp.refl _) | (apply Imp.right; exact Imp.refl _) | (apply Imp.left; apply Imp.left; exact Imp.refl _))) | (apply EvC.now; exact rfl))); done) | (first | exact ext_tok _ | exact ext_stm _ _ _) | (focus (repeat (first | apply List.Mem.head | apply List.Mem.tail | apply List.mem_append_right)))); exact hrd; exact rfl; (exact hm1); (simp only [List.set_cons_succ, List.set_cons_zero]; exact rfl))
          | ((first | (with_reducible apply q_pl) | ((with_reducible apply q_gd); (first | (apply GdBy.gt; exact rfl; exact rfl) | (apply GdBy.gf; exact rfl; exact rfl) | (apply GdBy.t; exact rfl; exact rfl) | (apply GdBy.f; exact rfl; exact rfl)))); (first | ((with_reducible first | apply t_move | apply t_assign | apply t_and | apply t_or | apply t_cmp | apply t_not | apply t_addr (fTok _ (by decide)) | apply t_addr (fStm _ (by decide)) | apply t_one tIntL | apply t_one tStrO | apply t_one tBoolL | apply t_one tStrsL | apply t_one tPartsL | apply t_part tTok | apply t_part tStm) <;> (first | (apply EvC.gv; exact rfl; (with_reducible first | exact Imp.refl _ | (apply Imp.left; exact Imp.refl _) | (apply Imp.right; exact Imp.refl _) | (apply Imp.left; apply Imp.left; exact Imp.refl _))) | (apply EvC.now; exact rfl) | exact rfl | (with_reducible exact EvAll.nil) | (focus (repeat (first | apply EvAll.cons | exact EvAll.nil | (apply EvC.gv; exact rfl; (with_reducible first | exact Imp.refl _ | (apply Imp.left; exact Imp.refl _) | (apply Imp.right; exact Imp.refl _) | (apply Imp.left; apply Imp.left; exact Imp.refl _))) | (apply EvC.now; exact rfl))); done) | (first | exact ext_tok _ | exact ext_stm _ _ _) | (focus (repeat (first | apply List.Mem.head | apply List.Mem.tail | apply List.mem_append_right)))))); (simp only [List.set_cons_succ, List.set_cons_zero]; exact rfl)))
              refine wpT_nil ?_
              refine wpG_two hR (i := 4) (j := 9) (by decide +kernel) ?_ ?_
              · clear hR; intro w hR
                refine opQ hR rfl rfl (t_one tStrsL (EvC.now rfl) (.head _) rfl) (by (simp only [List.set_cons_succ, List.set_cons_zero]; exact rfl)) ?_
                clear hR; intro w hR
                refine ⟨hR.drop (List.nil_sublist _), ?_⟩
                refine wpG_one hR (i := 9) (by decide +kernel) ?_
                clear hR; intro w hR
                refine opBuildS hR rfl rfl rfl (bStrs1 _) ?_
                clear hR; intro gk w hR
                refine ⟨hR.drop (List.nil_sublist _), ?_⟩
                simp only [List.set_cons_succ, List.set_cons_zero]
                refine wpG_appG hR (i := 10) (by decide +kernel) tStrsB rfl rfl rfl rfl (Les.tail (Les.tail Les.head)) hS (fun w1 hO => rd_str hO (.head _)) (by simp only [maxLen]; omega) (by omega) (List.nil_sublist _) ?_
                clear hR hS; intro s2 v2 w hR hS
                simp only [List.set_cons_succ, List.set_cons_zero]
                refine wpG_q hR (i := 13) (by decide +kernel) rfl rfl (t_nilck (EvC.now rfl)) (by (simp only [List.set_cons_succ, List.set_cons_zero]; exact rfl)) (List.nil_sublist _) ?_
                clear hR; intro w hR
                refine wpG_q hR (i := 14) (by decide +kernel) rfl rfl (t_addr (fStm 2 (by decide)) (EvC.now rfl)) (by (simp only [List.set_cons_succ, List.set_cons_zero]; exact rfl)) (List.nil_sublist _) ?_
                clear hR; intro w hR
                refine wpG_put1 hR tStrsL (i := 15) (by decide +kernel) rfl rfl rfl (List.mem_append_right _ (.tail _ (.head _))) (put_sPre _ _ _ _) (Nat.le_of_ble_eq_true rfl) hS.one (Upd.skipL _ (.tail .head)) (List.nil_sublist _) ?_
                clear hR; intro w hR
                refine wpG_q hR (i := 16) (by decide +kernel) rfl rfl (t_assign (EvC.now rfl)) (by (simp only [List.set_cons_succ, List.set_cons_zero]; exact rfl)) (List.nil_sublist _) ?_
                clear hR; intro w hR
                refine wpG_end hR (by decide +kernel) ?_
                clear hR; intro w hR
                go_wp2_with fail
                go_round
                case rel =>
                  refine ⟨m.drop 1, ds ++ [t.s], s2, v2, hTm.tail hm1, ?_, ?_, ?_, ?_, ?_, ?_⟩
                  · exact Own.les (hR.drop (List.Sublist.append (List.Sublist.refl _) (List.sublist_cons_self _ _))) (Les.skip s2 Les.one)
                  · rw [List.length_append]; exact hS.cast (by simp [cellT])
                  · intro x hx
                    rcases List.mem_append.1 hx with hx | hx
                    · exact hdo x hx
                    · rw [List.mem_singleton.1 hx]; exact hto
                  · rw [List.length_append, List.length_drop]; simp only [List.length_cons, List.length_nil]; omega
                  · rw [← hps, HM.out, (pres_more HPT.out).1]; simp
                  · rw [← hrs, HM.out, (pres_more HPT.out).2]; rfl
                case measure =>
                  have e1 := (hTm.tail hm1).len
                  rw [List.length_drop] at e1
                  simp only [e1]
                  show _ < lenV (Value.slice (some a) m.length cap)
                  show m.length - 1 < m.length
                  omega
              · clear hR; intro w hR
                refine opBuildS hR rfl rfl rfl (bStrs1 _) ?_
                clear hR; intro gk w hR
                refine ⟨hR.drop (List.nil_sublist _), ?_⟩
                simp only [List.set_cons_succ, List.set_cons_zero]
                refine wpG_one hR (i := 4) (by decide +kernel) ?_
                clear hR; intro w hR
                refine opQ hR rfl rfl (t_one tStrsL (EvC.now rfl) (.tail _ (.head _)) rfl) (by (simp only [List.set_cons_succ, List.set_cons_zero]; exact rfl)) ?_
                clear hR; intro w hR
                refine ⟨hR.drop (List.nil_sublist _), ?_⟩
                refine wpG_appG hR (i := 10) (by decide +kernel) tStrsB rfl rfl rfl rfl (Les.tail (Les.tail Les.head)) hS (fun w1 hO => rd_str hO (.head _)) (by simp only [maxLen]; omega) (by omega) (List.nil_sublist _) ?_
                clear hR hS; intro s2 v2 w hR hS
                simp only [List.set_cons_succ, List.set_cons_zero]
                refine wpG_q hR (i := 13) (by decide +kernel) rfl rfl (t_nilck (EvC.now rfl)) (by (simp only [List.set_cons_succ, List.set_cons_zero]; exact rfl)) (List.nil_sublist _) ?_
                clear hR; intro w hR
                refine wpG_q hR (i := 14) (by decide +kernel) rfl rfl (t_addr (fStm 2 (by decide)) (EvC.now rfl)) (by (simp only [List.set_cons_succ, List.set_cons_zero]; exact rfl)) (List.nil_sublist _) ?_
                clear hR; intro w hR
                refine wpG_put1 hR tStrsL (i := 15) (by decide +kernel) rfl rfl rfl (List.mem_append_right _ (.tail _ (.head _))) (put_sPre _ _ _ _) (Nat.le_of_ble_eq_true rfl) hS.one (Upd.skipL _ (.tail .head)) (List.nil_sublist _) ?_
                clear hR; intro w hR
                refine wpG_q hR (i := 16) (by decide +kernel) rfl rfl (t_assign (EvC.now rfl)) (by (simp only [List.set_cons_succ, List.set_cons_zero]; exact rfl)) (List.nil_sublist _) ?_
                clear hR; intro w hR
                refine wpG_end hR (by decide +kernel) ?_
                clear hR; intro w hR
                go_wp2_with fail
                go_round
                case rel =>
                  refine ⟨m.drop 1, ds ++ [t.s], s2, v2, hTm.tail hm1, ?_, ?_, ?_, ?_, ?_, ?_⟩
                  · exact Own.les (hR.drop (List.Sublist.append (List.Sublist.refl _) (List.sublist_cons_self _ _))) (Les.skip s2 Les.one)
                  · rw [List.length_append]; exact hS.cast (by simp [cellT])
                  · intro x hx
                    rcases List.mem_append.1 hx with hx | hx
                    · exact hdo x hx
                    · rw [List.mem_singleton.1 hx]; exact hto
                  · rw [List.length_append, List.length_drop]; simp only [List.length_cons, List.length_nil]; omega
                  · rw [← hps, HM.out, (pres_more HPT.out).1]; simp
                  · rw [← hrs, HM.out, (pres_more HPT.out).2]; rfl
                case measure =>
                  have e1 := (hTm.tail hm1).len
                  rw [List.length_drop] at e1
                  simp only [e1]
                  show _ < lenV (Value.slice (some a) m.length cap)
                  show m.length - 1 < m.length
                  omega
            | false =>
              rw [hpw] at HP
              have hst := pres_stop (.inr ⟨t, _, HM.out, by unfold prefT nameT; rw [hpw, decide_eq_true hk]; rfl⟩)
              clear hpw hk
              go_wp2_with (first
          | ((with_reducible apply q_ls hR); exact rfl; (with_reducible apply t_len Tryd.underlying31); (apply EvC.now; exact rfl); (simp only [List.set_cons_succ, List.set_cons_zero]; exact rfl); clear hR; intro w hR)
          | ((with_reducible apply q_ls hR); exact rfl; (with_reducible apply t_cmp (op := .gtr)); (apply EvC.now; exact rfl); (apply EvC.now; exact rfl); exact HG.out; (simp only [List.set_cons_succ, List.set_cons_zero]; exact rfl); clear hR; intro w hR)
          | ((with_reducible apply q_ls hR); exact rfl; (with_reducible apply t_cmp (op := .eql)); (apply EvC.now; exact rfl); (apply EvC.now; exact rfl); exact HK.out; (simp only [List.set_cons_succ, List.set_cons_zero]; exact rfl); clear hR; intro w hR)
          | ((with_reducible apply q_ls hR); exact rfl; (with_reducible apply t_six Tryd.underlying31 iTok); (apply EvC.now; exact rfl); (apply EvC.now; exact rfl); exact HIX.out; (simp only [List.set_cons_succ, List.set_cons_zero]; exact rfl); clear hR; intro w hR)
          | ((with_reducible apply q_ls hR); exact rfl; (with_reducible apply t_fieldA (fTokA 0 (by decide))); (apply EvC.now; exact rfl); (simp only [List.set_cons_succ, List.set_cons_zero]; exact rfl); clear hR; intro w hR)
          | ((with_reducible apply q_ls hR); exact rfl; (with_reducible apply t_fieldA (fTokA 1 (by decide))); (apply EvC.now; exact rfl); (simp only [List.set_cons_succ, List.set_cons_zero]; exact rfl); clear hR; intro w hR)
          | ((with_reducible apply q_ls hR); exact rfl; (with_reducible apply t_oldOne tIntL); (apply EvC.now; exact rfl); (with_reducible exact HC0.out); exact rfl; (simp only [List.set_cons_succ, List.set_cons_zero]; exact rfl); clear hR; intro w hR)
          | ((with_reducible apply q_ls hR); exact rfl; (with_reducible apply t_oldOne tStrO); (apply EvC.now; exact rfl); (with_reducible exact HC1.out); exact rfl; (simp only [List.set_cons_succ, List.set_cons_zero]; exact rfl); clear hR; intro w hR)
          | (go_at_call 12; refine (HP.out _).mono ?_; rintro e w' ⟨rfl, rfl⟩))
              go_ret
              rw [hst.1, List.append_nil] at hps
              rw [hst.2] at hrs
              subst hps hrs
              rw [haz]
              have hE : encSt st vp nilS = encSt ⟨st.label, st.colon, ds, [], []⟩ vp nilS := encSt_same _ _ _ _ rfl rfl hop
              rw [hE] at hR
              exact ⟨sp, vp, _, rfl, hR, hS, hTm, hdo, hlo⟩
          · have HK := Lib.hid (show cmpB .eql t.k 1 = some false from congrArg some (decide_eq_false hk))
            have hst := pres_stop (.inr ⟨t, _, HM.out, by unfold prefT nameT; rw [decide_eq_false hk]; rfl⟩)
            clear hk
            go_wp2_with (first
          | ((with_reducible apply q_ls hR); exact rfl; (with_reducible apply t_len Tryd.underlying31); (apply EvC.now; exact rfl); (simp only [List.set_cons_succ, List.set_cons_zero]; exact rfl); clear hR; intro w hR)
          | ((with_reducible apply q_ls hR); exact rfl; (with_reducible apply t_cmp (op := .gtr)); (apply EvC.now; exact rfl); (apply EvC.now; exact rfl); exact HG.out; (simp only [List.set_cons_succ, List.set_cons_zero]; exact rfl); clear hR; intro w hR)
          | ((with_reducible apply q_ls hR); exact rfl; (with_reducible apply t_cmp (op := .eql)); (apply EvC.now; exact rfl); (apply EvC.now; exact rfl); exact HK.out; (simp only [List.set_cons_succ, List.set_cons_zero]; exact rfl); clear hR; intro w hR)
          | ((with_reducible apply q_ls hR); exact rfl; (with_reducible apply t_six Tryd.underlying31 iTok); (apply EvC.now; exact rfl); (apply EvC.now; exact rfl); exact HIX.out; (simp only [List.set_cons_succ, List.set_cons_zero]; exact rfl); clear hR; intro w hR)
          | ((with_reducible apply q_ls hR); exact rfl; (with_reducible apply t_fieldA (fTokA 0 (by decide))); (apply EvC.now; exact rfl); (simp only [List.set_cons_succ, List.set_cons_zero]; exact rfl); clear hR; intro w hR)
          | ((with_reducible apply q_ls hR); exact rfl; (with_reducible apply t_fieldA (fTokA 1 (by decide))); (apply EvC.now; exact rfl); (simp only [List.set_cons_succ, List.set_cons_zero]; exact rfl); clear hR; intro w hR)
          | ((with_reducible apply q_ls hR); exact rfl; (with_reducible apply t_oldOne tIntL); (apply EvC.now; exact rfl); (with_reducible exact HC0.out); exact rfl; (simp only [List.set_cons_succ, List.set_cons_zero]; exact rfl); clear hR; intro w hR)
          | ((with_reducible apply q_ls hR); exact rfl; (with_reducible apply t_oldOne tStrO); (apply EvC.now; exact rfl); (with_reducible exact HC1.out); exact rfl; (simp only [List.set_cons_succ, List.set_cons_zero]; exact rfl); clear hR; intro w hR))
            go_ret
            rw [hst.1, List.append_nil] at hps
            rw [hst.2] at hrs
            subst hps hrs
            rw [haz]
            have hE : encSt st vp nilS = encSt ⟨st.label, st.colon, ds, [], []⟩ vp nilS := encSt_same _ _ _ _ rfl rfl hop
            rw [hE] at hR
            exact ⟨sp, vp, _, rfl, hR, hS, hTm, hdo, hlo⟩
  · have haz0 := ahead_no (labelL_short h2)
    have HG := Lib.hid (show cmpB .geq (l.length : Int) 2 = some false from congrArg some (decide_eq_false (by omega)))
    have hrd := hT.rd
    unfold RowsAt at hrd
    have hT1 := hT
    have hn1 : l.length ≤ n := by omega
    obtain ⟨st, hst0⟩ : ∃ st : StmZ, st = noStm := ⟨_, rfl⟩
    have hop : st.op = [] := by rw [hst0]; rfl
    have hlo : bytesOk st.label := by rw [hst0]; exact bytesOk.nil
    rw [← hst0] at hR
    obtain ⟨l1, hl1⟩ : ∃ l1, l1 = l := ⟨_, rfl⟩
    rw [← hl1] at hn1
    replace hT1 : TokL w0 _ l1 := hl1 ▸ hT
    obtain ⟨ps, hps1⟩ : ∃ ps, presZ l1 = ps := ⟨_, rfl⟩
    obtain ⟨rest, hrs1⟩ : ∃ rest, l1.dropWhile prefT = rest := ⟨_, rfl⟩
    have haz : aheadZ l = (⟨st.label, st.colon, ps, [], []⟩, rest) := by rw [haz0, ← hl1, hps1, hrs1, hst0]; rfl
    clear haz0 hst0 h2
    go_enter Tryd.func15, Tryd.ntmps15
    go_wp2_with (first
    | ((with_reducible apply q_ls hR); exact rfl; (with_reducible apply t_lenRd Tryd.underlying31); (apply EvC.now; exact rfl); exact hrd; (simp only [List.set_cons_succ, List.set_cons_zero]; exact rfl); clear hR; intro w hR)
    | ((with_reducible apply q_ls hR); exact rfl; (with_reducible apply t_cmp (op := .geq)); (apply EvC.now; exact rfl); (apply EvC.now; exact rfl); exact HG.out; (simp only [List.set_cons_succ, List.set_cons_zero]; exact rfl); clear hR; intro w hR))
    clear hrd HG
    go_loopw [1] (fun v wr => PreIs w0 g L st ps rest n v wr) (fun v _ => lenV v)
    case atStart => exact ⟨l1, [], [], nilS, hT1, hR, Sl.nil _ _, (fun _ h => nomatch h), by simpa using hn1, hps1, hrs1⟩
    case round =>
      clear hR hT1 hps1 hrs1 hn1
      obtain ⟨m, ds, sp, vp, hTm, hR, hS, hdo, hdn, hps, hrs⟩ := hrel
      have hrd := hTm.rd
      cases hm : m with
      | nil =>
        have hst := pres_stop (.inl hm)
        have HG := Lib.hid (show cmpB .gtr (m.length : Int) 0 = some false by rw [hm]; rfl)
        clear hm
        go_wp2_with (first
        | ((with_reducible apply q_ls hR); exact rfl; (with_reducible apply t_lenRd Tryd.underlying31); (apply EvC.now; exact rfl); exact hrd; (simp only [List.set_cons_succ, List.set_cons_zero]; exact rfl); clear hR; intro w hR)
        | ((with_reducible apply q_ls hR); exact rfl; (with_reducible apply t_cmp (op := .gtr)); (apply EvC.now; exact rfl); (apply EvC.now; exact rfl); exact HG.out; (simp only [List.set_cons_succ, List.set_cons_zero]; exact rfl); clear hR; intro w hR))
        go_ret
        rw [hst.1, List.append_nil] at hps
        rw [hst.2] at hrs
        subst hps hrs
        rw [haz]
        have hE : encSt st vp nilS = encSt ⟨st.label, st.colon, ds, [], []⟩ vp nilS := encSt_same _ _ _ _ rfl rfl hop
        rw [hE] at hR
        exact ⟨sp, vp, _, rfl, hR, hS, hTm, hdo, hlo⟩
      | cons t r =>
        have HM := Lib.hid hm
        have ht : m[0]? = some t := by rw [hm]; rfl
        have hm1 : 1 ≤ m.length := by rw [hm]; simp
        have hd1 : m.drop 1 = r := by rw [hm]; rfl
        obtain ⟨hto, a, cap, rfl, hcell⟩ := hTm.el ht
        have HG := Lib.hid (show cmpB .gtr (m.length : Int) 0 = some true from congrArg some (decide_eq_true (by omega)))
        have HIX := Lib.hid (show (0 : Int) ≤ 0 ∧ (0 : Int) < m.length by omega)
        have HC0 := Lib.hid (show w0.cell? ((a.add ((0 : Int).toNat * 4)).add 0) = some (.int .i64 t.k) from hcell 0 _ rfl)
        have HC1 := Lib.hid (show w0.cell? ((a.add ((0 : Int).toNat * 4)).add 1) = some (.string (strOfNums t.s)) from hcell 1 _ rfl)
        subst hd1
        clear hm ht hcell
        by_cases hk : t.k = 1
        · have HK := Lib.hid (show cmpB .eql t.k 1 = some true from congrArg some (decide_eq_true hk))
          have HP := Lib.hid (prefS_any hto)
          cases hpw : prefW t.s with
          | true =>
            rw [hpw] at HP
            have HPT := Lib.hid (show prefT t = true by unfold prefT nameT; rw [hpw, decide_eq_true hk]; rfl)
            clear hpw hk
            go_upto_region 4 with (first
        | ((with_reducible apply q_ls hR); exact rfl; (with_reducible apply t_len Tryd.underlying31); (apply EvC.now; exact rfl); (simp only [List.set_cons_succ, List.set_cons_zero]; exact rfl); clear hR; intro w hR)
        | ((with_reducible apply q_ls hR); exact rfl; (with_reducible apply t_cmp (op := .gtr)); (apply EvC.now; exact rfl); (apply EvC.now; exact rfl); exact HG.out; (simp only [List.set_cons_succ, List.set_cons_zero]; exact rfl); clear hR; intro w hR)
        | ((with_reducible apply q_ls hR); exact rfl; (with_reducible apply t_cmp (op := .eql)); (apply EvC.now; exact rfl); (apply EvC.now; exact rfl); exact HK.out; (simp only [List.set_cons_succ, List.set_cons_zero]; exact rfl); clear hR; intro w hR)
        | ((with_reducible apply q_ls hR); exact rfl; (with_reducible apply t_six Tryd.underlying31 iTok); (apply EvC.now; exact rfl); (apply EvC.now; exact rfl); exact HIX.out; (simp only [List.set_cons_succ, List.set_cons_zero]; exact rfl); clear hR; intro w hR)
        | ((with_reducible apply q_ls hR); exact rfl; (with_reducible apply t_fieldA (fTokA 0 (by decide))); (apply EvC.now; exact rfl); (simp only [List.set_cons_succ, List.set_cons_zero]; exact rfl); clear hR; intro w hR)
        | ((with_reducible apply q_ls hR); exact rfl; (with_reducible apply t_fieldA (fTokA 1 (by decide))); (apply EvC.now; exact rfl); (simp only [List.set_cons_succ, List.set_cons_zero]; exact rfl); clear hR; intro w hR)
        | ((with_reducible apply q_ls hR); exact rfl; (with_reducible apply t_oldOne tIntL); (apply EvC.now; exact rfl); (with_reducible exact HC0.out); exact rfl; (simp only [List.set_cons_succ, List.set_cons_zero]; exact rfl); clear hR; intro w hR)
        | ((with_reducible apply q_ls hR); exact rfl; (with_reducible apply t_oldOne tStrO); (apply EvC.now; exact rfl); (with_reducible exact HC1.out); exact rfl; (simp only [List.set_cons_succ, List.set_cons_zero]; exact rfl); clear hR; intro w hR)
        | (go_at_call 12; refine (HP.out _).mono ?_; rintro e w' ⟨rfl, rfl⟩))
            refine wp_region_some hR [] (List.nil_sublist _) [0, 1, 2, 3, 5, 6, 7, 8, 11, 12] 7 (by kernel_rfl) (by kernel_rfl) (by kernel_rfl) rfl ?_
            clear hR; intro hR
            repeat (refine wpT_step rfl ?_; first
        | ((first | (with_reducible apply q_pl) | ((with_reducible apply q_gd); (first | (apply GdBy.gt; exact rfl; exact rfl) | (apply GdBy.gf; exact rfl; exact rfl) | (apply GdBy.t; exact rfl; exact rfl) | (apply GdBy.f; exact rfl; exact rfl)))); (with_reducible apply t_nilck); (first | (apply EvC.gv; exact rfl; (with_reducible first | exact Imp.refl _ | (apply Imp.left; exact Imp.refl _) | (apply Imp.right; exact Imp.refl _) | (apply Imp.left; apply Imp.left; exact Imp.refl _))) | (apply EvC.now; exact rfl) | exact rfl | (with_reducible exact EvAll.nil) | (focus (repeat (first | apply EvAll.cons | exact EvAll.nil | (apply EvC.gv; exact rfl; (with_reducible first | exact Imp.refl _ | (apply Imp.left; exact Imp.refl _) | (apply Imp.right; exact Imp.refl _) | (apply Imp.left; apply Imp.left; exact Imp.refl _))) | (apply EvC.now; exact rfl))); done) | (first | exact ext_tok _ | exact ext_stm _ _ _) | (focus (repeat (first | apply List.Mem.head | apply List.Mem.tail | apply List.mem_append_right)))); (simp only [List.set_cons_succ, List.set_cons_zero]; exact rfl))
        | ((first | (with_reducible apply q_pl) | ((with_reducible apply q_gd); (first | (apply GdBy.gt; exact rfl; exact rfl) | (apply GdBy.gf; exact rfl; exact rfl) | (apply GdBy.t; exact rfl; exact rfl) | (apply GdBy.f; exact rfl; exact rfl)))); (with_reducible apply t_addr (fStm _ (by decide))); (first | (apply EvC.gv; exact rfl; (with_reducible first | exact Imp.refl _ | (apply Imp.left; exact Imp.refl _) | (apply Imp.right; exact Imp.refl _) | (apply Imp.left; apply Imp.left; exact Imp.refl _))) | (apply EvC.now; exact rfl) | exact rfl | (with_reducible exact EvAll.nil) | (focus (repeat (first | apply EvAll.cons | exact EvAll.nil | (apply EvC.gv; exact rfl; (with_reducible first | exact Imp.refl _ | (apply Imp.left; exact Imp.refl _) | (apply Imp.right; exact Imp.refl _) | (apply Imp.left; apply Imp.left; exact Imp.refl _))) | (apply EvC.now; exact rfl))); done) | (first | exact ext_tok _ | exact ext_stm _ _ _) | (focus (repeat (first | apply List.Mem.head | apply List.Mem.tail | apply List.mem_append_right)))); (simp only [List.set_cons_succ, List.set_cons_zero]; exact rfl))
        | ((first | (with_reducible apply q_pl) | ((with_reducible apply q_gd); (first | (apply GdBy.gt; exact rfl; exact rfl) | (apply GdBy.gf; exact rfl; exact rfl) | (apply GdBy.t; exact rfl; exact rfl) | (apply GdBy.f; exact rfl; exact rfl)))); (with_reducible apply t_six Tryd.underlying31 iTok); (first | (apply EvC.gv; exact rfl; (with_reducible first | exact Imp.refl _ | (apply Imp.left; exact Imp.refl _) | (apply Imp.right; exact Imp.refl _) | (apply Imp.left; apply Imp.left; exact Imp.refl _))) | (apply EvC.now; exact rfl) | exact rfl | (with_reducible exact EvAll.nil) | (focus (repeat (first | apply EvAll.cons | exact EvAll.nil | (apply EvC.gv; exact rfl; (with_reducible first | exact Imp.refl _ | (apply Imp.left; exact Imp.refl _) | (apply Imp.right; exact Imp.refl _) | (apply Imp.left; apply Imp.left; exact Imp.refl _))) | (apply EvC.now; exact rfl))); done) | (first | exact ext_tok _ | exact ext_stm _ _ _) | (focus (repeat (first | apply List.Mem.head | apply List.Mem.tail | apply List.mem_append_right)))); (first | (apply EvC.gv; exact rfl; (with_reducible first | exact Imp.refl _ | (apply Imp.left; exact Imp.refl _) | (apply Imp.right; exact Imp.refl _) | (apply Imp.left; apply Imp.left; exact Imp.refl _))) | (apply EvC.now; exact rfl) | exact rfl | (with_reducible exact EvAll.nil) | (focus (repeat (first | apply EvAll.cons | exact EvAll.nil | (apply EvC.gv; exact rfl; (with_reducible first | exact Imp.refl _ | (apply Imp.left; exact Imp.refl _) | (apply Imp.right; exact Imp.refl _) | (apply Imp.left; apply Imp.left; exact Imp.refl _))) | (apply EvC.now; exact rfl))); done) | (first | exact ext_tok _ | exact ext_stm _ _ _) | (focus (repeat (first | apply List.Mem.head | apply List.Mem.tail | apply List.mem_append_right)))); (exact HIX.out); (simp only [List.set_cons_succ, List.set_cons_zero]; exact rfl))
        | ((first | (with_reducible apply q_pl) | ((with_reducible apply q_gd); (first | (apply GdBy.gt; exact rfl; exact rfl) | (apply GdBy.gf; exact rfl; exact rfl) | (apply GdBy.t; exact rfl; exact rfl) | (apply GdBy.f; exact rfl; exact rfl)))); (with_reducible apply t_fieldA (fTokA 1 (by decide))); (first | (apply EvC.gv; exact rfl; (with_reducible first | exact Imp.refl _ | (apply Imp.left; exact Imp.refl _) | (apply Imp.right; exact Imp.refl _) | (apply Imp.left; apply Imp.left; exact Imp.refl _))) | (apply EvC.now; exact rfl) | exact rfl | (with_reducible exact EvAll.nil) | (focus (repeat (first | apply EvAll.cons | exact EvAll.nil | (apply EvC.gv; exact rfl; (with_reducible first | exact Imp.refl _ | (apply Imp.left; exact Imp.refl _) | (apply Imp.right; exact Imp.refl _) | (apply Imp.left; apply Imp.left; exact Imp.refl _))) | (apply EvC.now; exact rfl))); done) | (first | exact ext_tok _ | exact ext_stm _ _ _) | (focus (repeat (first | apply List.Mem.head | apply List.Mem.tail | apply List.mem_append_right)))); (simp only [List.set_cons_succ, List.set_cons_zero]; exact rfl))
        | ((first | (with_reducible apply q_pl) | ((with_reducible apply q_gd); (first | (apply GdBy.gt; exact rfl; exact rfl) | (apply GdBy.gf; exact rfl; exact rfl) | (apply GdBy.t; exact rfl; exact rfl) | (apply GdBy.f; exact rfl; exact rfl)))); (with_reducible apply t_oldOne tStrO); (first | (apply EvC.gv; exact rfl; (with_reducible first | exact Imp.refl _ | (apply Imp.left; exact Imp.refl _) | (apply Imp.right; exact Imp.refl _) | (apply Imp.left; apply Imp.left; exact Imp.refl _))) | (apply EvC.now; exact rfl) | exact rfl | (with_reducible exact EvAll.nil) | (focus (repeat (first | apply EvAll.cons | exact EvAll.nil | (apply EvC.gv; exact rfl; (with_reducible first | exact Imp.refl _ | (apply Imp.left; exact Imp.refl _) | (apply Imp.right; exact Imp.refl _) | (apply Imp.left; apply Imp.left; exact Imp.refl _))) | (apply EvC.now; exact rfl))); done) | (first | exact ext_tok _ | exact ext_stm _ _ _) | (focus (repeat (first | apply List.Mem.head | apply List.Mem.tail | apply List.mem_append_right)))); (exact HC1.out); exact rfl; (simp only [List.set_cons_succ, List.set_cons_zero]; exact rfl))
        | ((first | (with_reducible apply q_pl) | ((with_reducible apply q_gd); (first | (apply GdBy.gt; exact rfl; exact rfl) | (apply GdBy.gf; exact rfl; exact rfl) | (apply GdBy.t; exact rfl; exact rfl) | (apply GdBy.f; exact rfl; exact rfl)))); (with_reducible apply t_tailRd (i := 1) Tryd.underlying31 iTok); (first | (apply EvC.gv; exact rfl; (with_reducible first | exact Imp.refl _ | (apply Imp.left; exact Imp.refl _) | (apply Imp.right; exact Imp.refl _) | (apply Imp.left; apply Imp.left; exact Imp.refl _))) | (apply EvC.now; exact rfl) | exact rfl | (with_reducible exact EvAll.nil) | (focus (repeat (first | apply EvAll.cons | exact EvAll.nil | (apply EvC.gv; exact rfl; (with_reducible first | exact Imp.refl _ | (apply Imp.left; exact Imp.refl _) | (apply Imp.right; exact Imp.refl _) | (apply Imp.left; apply Imp.left; exact Imp.refl _))) | (apply EvC.now; exact rfl))); done) | (first | exact ext_tok _ | exact ext_stm _ _ _) | (focus (repeat (first | apply List.Mem.head | apply List.Mem.tail | apply List.mem_append_right)))); (first | (apply EvC.gv; exact rfl; (with_reducible first | exact Imp.refl _ | (apply Imp.left; exact Imp.refl _) | (apply Imp.right; exact Imp.refl _) | (apply Imp.left; apply Imp.left; exact Imp.refl _))) | (apply EvC.now; exact rfl) | exact rfl | (with_reducible exact EvAll.nil) | (focus (repeat (first | apply EvAll.cons | exact EvAll.nil | (apply EvC.gv; exact rfl; (with_reducible first | exact Imp.refl _ | (apply Imp.left; exact Imp.refl _) | (apply Imp.right; exact Imp.refl _) | (apply Imp.left; apply Imp.left; exact Imp.refl _))) | (apply EvC.now; exact rfl))); done) | (first | exact ext_tok _ | exact ext_stm _ _ _) | (focus (repeat (first | apply List.Mem.head | apply List.Mem.tail | apply List.mem_append_right)))); exact hrd; exact rfl; (exact hm1); (simp only [List.set_cons_succ, List.set_cons_zero]; exact rfl))
        | ((first | (with_reducible apply q_pl) | ((with_reducible apply q_gd); (first | (apply GdBy.gt; exact rfl; exact rfl) | (apply GdBy.gf; exact rfl; exact rfl) | (apply GdBy.t; exact rfl; exact rfl) | (apply GdBy.f; exact rfl; exact rfl)))); (first | ((with_reducible first | apply t_move | apply t_assign | apply t_and | apply t_or | apply t_cmp | apply t_not | apply t_addr (fTok _ (by decide)) | apply t_addr (fStm _ (by decide)) | apply t_one tIntL | apply t_one tStrO | apply t_one tBoolL | apply t_one tStrsL | apply t_one tPartsL | apply t_part tTok | apply t_part tStm) <;> (first | (apply EvC.gv; exact rfl; (with_reducible first | exact Imp.refl _ | (apply Imp.left; exact Imp.refl _) | (apply Imp.right; exact Imp.refl _) | (apply Imp.left; apply Imp.left; exact Imp.refl _))) | (apply EvC.now; exact rfl) | exact rfl | (with_reducible exact EvAll.nil) | (focus (repeat (first | apply EvAll.cons | exact EvAll.nil | (apply EvC.gv; exact rfl; (with_reducible first | exact Imp.refl _ | (apply Imp.left; exact Imp.refl _) | (apply Imp.right; exact Imp.refl _) | (apply Imp.left; apply Imp.left; exact Imp.refl _))) | (apply EvC.now; exact rfl))); done) | (first | exact ext_tok _ | exact ext_stm _ _ _) | (focus (repeat (first | apply List.Mem.head | apply List.Mem.tail | apply List.mem_append_right)))))); (simp only [List.set_cons_succ, List.set_cons_zero]; exact rfl)))
            refine wpT_nil ?_
            refine wpG_two hR (i := 4) (j := 9) (by decide +kernel) ?_ ?_
            · clear hR; intro w hR
              refine opQ hR rfl rfl (t_one tStrsL (EvC.now rfl) (.head _) rfl) (by (simp only [List.set_cons_succ, List.set_cons_zero]; exact rfl)) ?_
              clear hR; intro w hR
              refine ⟨hR.drop (List.nil_sublist _), ?_⟩
              refine wpG_one hR (i := 9) (by decide +kernel) ?_
              clear hR; intro w hR
              refine opBuildS hR rfl rfl rfl (bStrs1 _) ?_
              clear hR; intro gk w hR
              refine ⟨hR.drop (List.nil_sublist _), ?_⟩
              simp only [List.set_cons_succ, List.set_cons_zero]
              refine wpG_appG hR (i := 10) (by decide +kernel) tStrsB rfl rfl rfl rfl (Les.tail (Les.tail Les.head)) hS (fun w1 hO => rd_str hO (.head _)) (by simp only [maxLen]; omega) (by omega) (List.nil_sublist _) ?_
              clear hR hS; intro s2 v2 w hR hS
              simp only [List.set_cons_succ, List.set_cons_zero]
              refine wpG_q hR (i := 13) (by decide +kernel) rfl rfl (t_nilck (EvC.now rfl)) (by (simp only [List.set_cons_succ, List.set_cons_zero]; exact rfl)) (List.nil_sublist _) ?_
              clear hR; intro w hR
              refine wpG_q hR (i := 14) (by decide +kernel) rfl rfl (t_addr (fStm 2 (by decide)) (EvC.now rfl)) (by (simp only [List.set_cons_succ, List.set_cons_zero]; exact rfl)) (List.nil_sublist _) ?_
              clear hR; intro w hR
              refine wpG_put1 hR tStrsL (i := 15) (by decide +kernel) rfl rfl rfl (List.mem_append_right _ (.tail _ (.head _))) (put_sPre _ _ _ _) (Nat.le_of_ble_eq_true rfl) hS.one (Upd.skipL _ (.tail .head)) (List.nil_sublist _) ?_
              clear hR; intro w hR
              refine wpG_q hR (i := 16) (by decide +kernel) rfl rfl (t_assign (EvC.now rfl)) (by (simp only [List.set_cons_succ, List.set_cons_zero]; exact rfl)) (List.nil_sublist _) ?_
              clear hR; intro w hR
              refine wpG_end hR (by decide +kernel) ?_
              clear hR; intro w hR
              go_wp2_with fail
              go_round
              case rel =>
                refine ⟨m.drop 1, ds ++ [t.s], s2, v2, hTm.tail hm1, ?_, ?_, ?_, ?_, ?_, ?_⟩
                · exact Own.les (hR.drop (List.Sublist.append (List.Sublist.refl _) (List.sublist_cons_self _ _))) (Les.skip s2 Les.one)
                · rw [List.length_append]; exact hS.cast (by simp [cellT])
                · intro x hx
                  rcases List.mem_append.1 hx with hx | hx
                  · exact hdo x hx
                  · rw [List.mem_singleton.1 hx]; exact hto
                · rw [List.length_append, List.length_drop]; simp only [List.length_cons, List.length_nil]; omega
                · rw [← hps, HM.out, (pres_more HPT.out).1]; simp
                · rw [← hrs, HM.out, (pres_more HPT.out).2]; rfl
              case measure =>
                have e1 := (hTm.tail hm1).len
                rw [List.length_drop] at e1
                simp only [e1]
                show _ < lenV (Value.slice (some a) m.length cap)
                show m.length - 1 < m.length
                omega
            · clear hR; intro w hR
              refine opBuildS hR rfl rfl rfl (bStrs1 _) ?_
              clear hR; intro gk w hR
              refine ⟨hR.drop (List.nil_sublist _), ?_⟩
              simp only [List.set_cons_succ, List.set_cons_zero]
              refine wpG_one hR (i := 4) (by decide +kernel) ?_
              clear hR; intro w hR
              refine opQ hR rfl rfl (t_one tStrsL (EvC.now rfl) (.tail _ (.head _)) rfl) (by (simp only [List.set_cons_succ, List.set_cons_zero]; exact rfl)) ?_
              clear hR; intro w hR
              refine ⟨hR.drop (List.nil_sublist _), ?_⟩
              refine wpG_appG hR (i := 10) (by decide +kernel) tStrsB rfl rfl rfl rfl (Les.tail (Les.tail Les.head)) hS (fun w1 hO => rd_str hO (.head _)) (by simp only [maxLen]; omega) (by omega) (List.nil_sublist _) ?_
              clear hR hS; intro s2 v2 w hR hS
              simp only [List.set_cons_succ, List.set_cons_zero]
              refine wpG_q hR (i := 13) (by decide +kernel) rfl rfl (t_nilck (EvC.now rfl)) (by (simp only [List.set_cons_succ, List.set_cons_zero]; exact rfl)) (List.nil_sublist _) ?_
              clear hR; intro w hR
              refine wpG_q hR (i := 14) (by decide +kernel) rfl rfl (t_addr (fStm 2 (by decide)) (EvC.now rfl)) (by (simp only [List.set_cons_succ, List.set_cons_zero]; exact rfl)) (List.nil_sublist _) ?_
              clear hR; intro w hR
              refine wpG_put1 hR tStrsL (i := 15) (by decide +kernel) rfl rfl rfl (List.mem_append_right _ (.tail _ (.head _))) (put_sPre _ _ _ _) (Nat.le_of_ble_eq_true rfl) hS.one (Upd.skipL _ (.tail .head)) (List.nil_sublist _) ?_
              clear hR; intro w hR
              refine wpG_q hR (i := 16) (by decide +kernel) rfl rfl (t_assign (EvC.now rfl)) (by (simp only [List.set_cons_succ, List.set_cons_zero]; exact rfl)) (List.nil_sublist _) ?_
              clear hR; intro w hR
              refine wpG_end hR (by decide +kernel) ?_
              clear hR; intro w hR
              go_wp2_with fail
              go_round
              case rel =>
                refine ⟨m.drop 1, ds ++ [t.s], s2, v2, hTm.tail hm1, ?_, ?_, ?_, ?_, ?_, ?_⟩
                · exact Own.les (hR.drop (List.Sublist.append (List.Sublist.refl _) (List.sublist_cons_self _ _))) (Les.skip s2 Les.one)
                · rw [List.length_append]; exact hS.cast (by simp [cellT])
                · intro x hx
                  rcases List.mem_append.1 hx with hx | hx
                  · exact hdo x hx
                  · rw [List.mem_singleton.1 hx]; exact hto
                · rw [List.length_append, List.length_drop]; simp only [List.length_cons, List.length_nil]; omega
                · rw [← hps, HM.out, (pres_more HPT.out).1]; simp
                · rw [← hrs, HM.out, (pres_more HPT.out).2]; rfl
              case measure =>
                have e1 := (hTm.tail hm1).len
                rw [List.length_drop] at e1
                simp only [e1]
                show _ < lenV (Value.slice (some a) m.length cap)
                show m.length - 1 < m.length
                omega
          | false =>
            rw [hpw] at HP
            have hst := pres_stop (.inr ⟨t, _, HM.out, by unfold prefT nameT; rw [hpw, decide_eq_true hk]; rfl⟩)
            clear hpw hk
            go_wp2_with (first
        | ((with_reducible apply q_ls hR); exact rfl; (with_reducible apply t_len Tryd.underlying31); (apply EvC.now; exact rfl); (simp only [List.set_cons_succ, List.set_cons_zero]; exact rfl); clear hR; intro w hR)
        | ((with_reducible apply q_ls hR); exact rfl; (with_reducible apply t_cmp (op := .gtr)); (apply EvC.now; exact rfl); (apply EvC.now; exact rfl); exact HG.out; (simp only [List.set_cons_succ, List.set_cons_zero]; exact rfl); clear hR; intro w hR)
        | ((with_reducible apply q_ls hR); exact rfl; (with_reducible apply t_cmp (op := .eql)); (apply EvC.now; exact rfl); (apply EvC.now; exact rfl); exact HK.out; (simp only [List.set_cons_succ, List.set_cons_zero]; exact rfl); clear hR; intro w hR)
        | ((with_reducible apply q_ls hR); exact rfl; (with_reducible apply t_six Tryd.underlying31 iTok); (apply EvC.now; exact rfl); (apply EvC.now; exact rfl); exact HIX.out; (simp only [List.set_cons_succ, List.set_cons_zero]; exact rfl); clear hR; intro w hR)
        | ((with_reducible apply q_ls hR); exact rfl; (with_reducible apply t_fieldA (fTokA 0 (by decide))); (apply EvC.now; exact rfl); (simp only [List.set_cons_succ, List.set_cons_zero]; exact rfl); clear hR; intro w hR)
        | ((with_reducible apply q_ls hR); exact rfl; (with_reducible apply t_fieldA (fTokA 1 (by decide))); (apply EvC.now; exact rfl); (simp only [List.set_cons_succ, List.set_cons_zero]; exact rfl); clear hR; intro w hR)
        | ((with_reducible apply q_ls hR); exact rfl; (with_reducible apply t_oldOne tIntL); (apply EvC.now; exact rfl); (with_reducible exact HC0.out); exact rfl; (simp only [List.set_cons_succ, List.set_cons_zero]; exact rfl); clear hR; intro w hR)
        | ((with_reducible apply q_ls hR); exact rfl; (with_reducible apply t_oldOne tStrO); (apply EvC.now; exact rfl); (with_reducible exact HC1.out); exact rfl; (simp only [List.set_cons_succ, List.set_cons_zero]; exact rfl); clear hR; intro w hR)
        | (go_at_call 12; refine (HP.out _).mono ?_; rintro e w' ⟨rfl, rfl⟩))
            go_ret
            rw [hst.1, List.append_nil] at hps
            rw [hst.2] at hrs
            subst hps hrs
            rw [haz]
            have hE : encSt st vp nilS = encSt ⟨st.label, st.colon, ds, [], []⟩ vp nilS := encSt_same _ _ _ _ rfl rfl hop
            rw [hE] at hR
            exact ⟨sp, vp, _, rfl, hR, hS, hTm, hdo, hlo⟩
        · have HK := Lib.hid (show cmpB .eql t.k 1 = some false from congrArg some (decide_eq_false hk))
          have hst := pres_stop (.inr ⟨t, _, HM.out, by unfold prefT nameT; rw [decide_eq_false hk]; rfl⟩)
          clear hk
          go_wp2_with (first
        | ((with_reducible apply q_ls hR); exact rfl; (with_reducible apply t_len Tryd.underlying31); (apply EvC.now; exact rfl); (simp only [List.set_cons_succ, List.set_cons_zero]; exact rfl); clear hR; intro w hR)
        | ((with_reducible apply q_ls hR); exact rfl; (with_reducible apply t_cmp (op := .gtr)); (apply EvC.now; exact rfl); (apply EvC.now; exact rfl); exact HG.out; (simp only [List.set_cons_succ, List.set_cons_zero]; exact rfl); clear hR; intro w hR)
        | ((with_reducible apply q_ls hR); exact rfl; (with_reducible apply t_cmp (op := .eql)); (apply EvC.now; exact rfl); (apply EvC.now; exact rfl); exact HK.out; (simp only [List.set_cons_succ, List.set_cons_zero]; exact rfl); clear hR; intro w hR)
        | ((with_reducible apply q_ls hR); exact rfl; (with_reducible apply t_six Tryd.underlying31 iTok); (apply EvC.now; exact rfl); (apply EvC.now; exact rfl); exact HIX.out; (simp only [List.set_cons_succ, List.set_cons_zero]; exact rfl); clear hR; intro w hR)
        | ((with_reducible apply q_ls hR); exact rfl; (with_reducible apply t_fieldA (fTokA 0 (by decide))); (apply EvC.now; exact rfl); (simp only [List.set_cons_succ, List.set_cons_zero]; exact rfl); clear hR; intro w hR)
        | ((with_reducible apply q_ls hR); exact rfl; (with_reducible apply t_fieldA (fTokA 1 (by decide))); (apply EvC.now; exact rfl); (simp only [List.set_cons_succ, List.set_cons_zero]; exact rfl); clear hR; intro w hR)
        | ((with_reducible apply q_ls hR); exact rfl; (with_reducible apply t_oldOne tIntL); (apply EvC.now; exact rfl); (with_reducible exact HC0.out); exact rfl; (simp only [List.set_cons_succ, List.set_cons_zero]; exact rfl); clear hR; intro w hR)
        | ((with_reducible apply q_ls hR); exact rfl; (with_reducible apply t_oldOne tStrO); (apply EvC.now; exact rfl); (with_reducible exact HC1.out); exact rfl; (simp only [List.set_cons_succ, List.set_cons_zero]; exact rfl); clear hR; intro w hR))
          go_ret
          rw [hst.1, List.append_nil] at hps
          rw [hst.2] at hrs
          subst hps hrs
          rw [haz]
          have hE : encSt st vp nilS = encSt ⟨st.label, st.colon, ds, [], []⟩ vp nilS := encSt_same _ _ _ _ rfl rfl hop
          rw [hE] at hR
          exact ⟨sp, vp, _, rfl, hR, hS, hTm, hdo, hlo⟩
end Go.Proofs.YtjecckmcjcikdaaDoor
