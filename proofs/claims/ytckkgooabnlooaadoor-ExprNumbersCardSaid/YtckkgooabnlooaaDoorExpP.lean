









/- The contract of package expr's ahead: one, with all that stands ahead of it. No statement of the seat is proved here. -/
import Derived.Test.YtckkgooabnlooaaDoorExpO
namespace Go.Proofs.YtckkgooabnlooaaDoor
open Go.ChangeShapes Go.WideShapes Go.ChangeAt Go.RowKit
set_option linter.unusedVariables false
set_option linter.unusedSimpArgs false
set_option maxRecDepth 100000

theorem got_word {a : List Int} {r : Rs PartZ} (h : (wordR a r).got) : r.got := by
  rcases r with ⟨p, s⟩ | e | _
  · trivial
  · trivial
  · exact h
theorem got_kind {n : Int} {r : Rs PartZ} (h : (kindR n r).got) : r.got := by
  rcases r with ⟨p, s⟩ | e | _
  · trivial
  · trivial
  · exact h
theorem got_over {n : Int} {r : Rs PartZ} (h : (overR n r).got) : r.got := by
  rcases r with ⟨p, s⟩ | e | _
  · trivial
  · trivial
  · exact h
set_option maxHeartbeats 8000000 in
theorem leadA_any {w0 : World} {gr : Nat} {tb : TabZ} {ah : St → Rs PartZ} (hD : RdOk w0 gr tb [] 54 #[.pointer (some ⟨gr, 0, none⟩), .func (.func 40) #[.pointer (some ⟨gr, 0, none⟩)] #[]] (deepM ah)) {t : TokZ} {r : List TokZ} {d m i : Int} (hl : leadsZ t = true)
    {v : Value} {w : World} {L R : List RowT} (hgot : (wordR t.s (deepM ah ⟨r, d, m, i⟩)).got) (hS1 : Toks w0 v (t :: r)) (hO : Own w0 w L) (hd : Del (gr, rdr v tb ⟨t :: r, d, m, i⟩, 66) L R) :
    Calls Tryd.prog 40 #[.pointer (some ⟨gr, 0, none⟩)] w (AnsR w0 gr tb partV R (wordR t.s (deepM ah ⟨r, d, m, i⟩))) := by
  have hR := hO.lead hd
  have HD := Lib.hid hD
  have ht := hS1.ok t (.head _)
  have hle := fun w0 => leadsE_any (t := t) ht w0
  rw [hl] at hle
  have HL := Lib.hid hle
  have HW := Lib.hid (fun p w0 => wordedE_any ht p w0)
  clear hO hd hD hle hl ht
  rcases hm : deepM ah ⟨r, d, m, i⟩ with ⟨p, s2⟩ | e | _
  · have HM := Lib.hid hm
    rw [show wordR t.s (Rs.ok p s2) = orBad (wordedZ t.s p) s2 from rfl]
    clear hm hgot
    cases ha : wordedZ t.s p with
    | none =>
      refine badR_ans ?_ rfl
      have HA := Lib.hid ha
      clear ha
      go_enter Tryd.func40, Tryd.ntmps40
      go_upto_if 8 with (first
        | ((with_reducible apply wpList_box hR); exact rfl; exact rfl; clear hR; intro g w hR; simp only [cS, cZ])
        | ((with_reducible apply wpList_make hR zPart); exact rfl; clear hR; intro g w hR; simp only [cS, cZ])
        | ((with_reducible apply wpList_make hR zTok); exact rfl; clear hR; intro g w hR; simp only [cS, cZ])
        | ((with_reducible apply q_ls hR); exact rfl; ((with_reducible first | apply t_addr fPart6 | apply t_addr fPart7 | apply t_addr (fTok _ (by decide)) | apply t_one tIntV | apply t_one tStrE | apply t_part tPart | apply t_part tTok) <;> (first | (focus (repeat (first | (apply EvC.gv; exact rfl; (with_reducible first | exact Imp.refl _ | (apply Imp.left; exact Imp.refl _) | (apply Imp.right; exact Imp.refl _) | (apply Imp.left; apply Imp.left; exact Imp.refl _))) | (apply EvC.now; exact rfl) | (with_reducible first | apply EvAll.cons | exact EvAll.nil))); done) | exact rfl | (first | exact ext_part _ | exact ext_tok _) | (focus (repeat (first | apply List.Mem.head | apply List.Mem.tail | apply List.mem_append_right))))); (simp only [cS, cZ]; exact rfl); clear hR; intro w hR)
        | (go_at_call 42; refine (nextE_any (hR.get (by (focus (repeat (first | apply List.Mem.head | apply List.Mem.tail | apply List.mem_append_right))))) (hS1.own hR)).mono ?_; rintro e w' ⟨rfl, hb⟩; replace hR := hR.grow hb; clear hb)
        | ((with_reducible apply wpList_put hR tPart); exact rfl; exact rfl; exact rfl; (focus (repeat (first | apply List.Mem.head | apply List.Mem.tail | apply List.mem_append_right))); exact put_part _ _; exact rfl; exact Nat.le_refl 14; exact one_part _; (focus (repeat (first | apply Upd.head | apply Upd.tail))); clear hR; intro w hR)
        | ((with_reducible apply wpList_put hR tTok); exact rfl; exact rfl; exact rfl; (focus (repeat (first | apply List.Mem.head | apply List.Mem.tail | apply List.mem_append_right))); exact put_tok _ _; exact rfl; exact Nat.le_refl 4; exact one_tok _; (focus (repeat (first | apply Upd.head | apply Upd.tail))); clear hR; intro w hR)
        | (go_at_call 52; refine (HL.out _).mono ?_; rintro e w' ⟨rfl, hb⟩; replace hR := hR.grow hb; clear hb))
      refine wp_cond_at (nm := true) rfl rfl (fun _ => ?_) (fun h => absurd h (by decide))
      go_upto_region 4 with (first
    | (go_at_call 43; refine (ansR_ok (takeE_any (s := ⟨t :: r, d, m, i⟩) hS1 hR (by (focus (repeat (first | apply Del.head | apply Del.tail))))) (take_cons _ _ _ _ _)).mono ?_; rintro e w' ⟨rfl, v2, hS2, hO⟩; clear hR; have hR := hO; clear hO))
      refine wp_region_someP hR [(g, encTok (nextZ ⟨t :: r, d, m, i⟩), 59)] (by (focus (repeat (with_reducible first | exact List.Sublist.slnil | exact List.nil_sublist _ | exact List.Sublist.refl _ | exact List.sublist_append_right _ _ | apply List.Sublist.cons_cons | apply List.Sublist.cons | apply sub_right)))) [0, 1, 2, 3, 4] 3 ⟨fun _ _ d _ _ h => by cases d <;> exact h⟩ (by kernel_rfl) (by kernel_rfl) (by kernel_rfl) rfl ?_
      clear hR; intro hR
      repeat (refine wpT_step rfl ?_; first
        | ((first | (with_reducible apply q_pl) | ((with_reducible apply q_gd); (first | (apply GdBy.gt; exact rfl; exact rfl) | (apply GdBy.gf; exact rfl; exact rfl) | (apply GdBy.t; exact rfl; exact rfl) | (apply GdBy.f; exact rfl; exact rfl)))); (with_reducible apply t_func); (first | (focus (repeat (first | (apply EvC.gv; exact rfl; (with_reducible first | exact Imp.refl _ | (apply Imp.left; exact Imp.refl _) | (apply Imp.right; exact Imp.refl _) | (apply Imp.left; apply Imp.left; exact Imp.refl _))) | (apply EvC.now; exact rfl) | (with_reducible first | apply EvAll.cons | exact EvAll.nil))); done) | exact rfl | (first | exact ext_part _ | exact ext_tok _) | (focus (repeat (first | apply List.Mem.head | apply List.Mem.tail | apply List.mem_append_right)))); (first | (focus (repeat (first | (apply EvC.gv; exact rfl; (with_reducible first | exact Imp.refl _ | (apply Imp.left; exact Imp.refl _) | (apply Imp.right; exact Imp.refl _) | (apply Imp.left; apply Imp.left; exact Imp.refl _))) | (apply EvC.now; exact rfl) | (with_reducible first | apply EvAll.cons | exact EvAll.nil))); done) | exact rfl | (first | exact ext_part _ | exact ext_tok _) | (focus (repeat (first | apply List.Mem.head | apply List.Mem.tail | apply List.mem_append_right)))); (simp only [cS, cZ]; exact rfl))
        | ((first | (with_reducible apply q_pl) | ((with_reducible apply q_gd); (first | (apply GdBy.gt; exact rfl; exact rfl) | (apply GdBy.gf; exact rfl; exact rfl) | (apply GdBy.t; exact rfl; exact rfl) | (apply GdBy.f; exact rfl; exact rfl)))); (first | ((with_reducible first | apply t_move | apply t_assign | apply t_and | apply t_or | apply t_cmp | apply t_not | apply t_addr fPart6 | apply t_addr fPart7 | apply t_addr (fTok _ (by decide)) | apply t_one tIntV | apply t_one tStrE | apply t_part tPart | apply t_part tTok) <;> (first | (focus (repeat (first | (apply EvC.gv; exact rfl; (with_reducible first | exact Imp.refl _ | (apply Imp.left; exact Imp.refl _) | (apply Imp.right; exact Imp.refl _) | (apply Imp.left; apply Imp.left; exact Imp.refl _))) | (apply EvC.now; exact rfl) | (with_reducible first | apply EvAll.cons | exact EvAll.nil))); done) | exact rfl | (first | exact ext_part _ | exact ext_tok _) | (focus (repeat (first | apply List.Mem.head | apply List.Mem.tail | apply List.mem_append_right)))))); (simp only [cS, cZ]; exact rfl)))
      refine wpT_nil ?_
      refine wpG_many hR (rs := [5]) (by decide +kernel) rfl (fun w hR => ⟨?_, trivial⟩)
      refine opCallOk Tryd.call54 rfl rfl rfl ((ansR_ok (HD.out ⟨r, d, m, i⟩ _ _ _ _ (by rw [HM.out]; trivial) hS2 hR (by (focus (repeat (first | apply Del.head | apply Del.tail)))) (fun _ h => nomatch h)) HM.out).mono ?_)
      rintro en w' ⟨rfl, v3, hS3, hO⟩
      refine ⟨_, rfl, hO.drop (by (focus (repeat (with_reducible first | exact List.Sublist.slnil | exact List.nil_sublist _ | exact List.Sublist.refl _ | exact List.sublist_append_right _ _ | apply List.Sublist.cons_cons | apply List.Sublist.cons | apply sub_right)))), ?_⟩
      clear hR; have hR := hO; clear hO
      simp only [cS, cZ]
      refine wpG_many hR (rs := [6]) (by decide +kernel) rfl (fun w hR => ⟨?_, trivial⟩)
      refine opCallBad Tryd.call53 rfl rfl rfl ((ansO_bad (HW.out p _) HA.out).mono ?_)
      rintro en w' ⟨rfl, hb⟩
      exact ⟨_, rfl, rfl, rfl, (hR.grow hb).drop (by (focus (repeat (with_reducible first | exact List.Sublist.slnil | exact List.nil_sublist _ | exact List.Sublist.refl _ | exact List.sublist_append_right _ _ | apply List.Sublist.cons_cons | apply List.Sublist.cons | apply sub_right))))⟩
    | some p' =>
      refine okR_ans ?_ rfl
      have HA := Lib.hid ha
      clear ha
      go_enter Tryd.func40, Tryd.ntmps40
      go_upto_if 8 with (first
        | ((with_reducible apply wpList_box hR); exact rfl; exact rfl; clear hR; intro g w hR; simp only [cS, cZ])
        | ((with_reducible apply wpList_make hR zPart); exact rfl; clear hR; intro g w hR; simp only [cS, cZ])
        | ((with_reducible apply wpList_make hR zTok); exact rfl; clear hR; intro g w hR; simp only [cS, cZ])
        | ((with_reducible apply q_ls hR); exact rfl; ((with_reducible first | apply t_addr fPart6 | apply t_addr fPart7 | apply t_addr (fTok _ (by decide)) | apply t_one tIntV | apply t_one tStrE | apply t_part tPart | apply t_part tTok) <;> (first | (focus (repeat (first | (apply EvC.gv; exact rfl; (with_reducible first | exact Imp.refl _ | (apply Imp.left; exact Imp.refl _) | (apply Imp.right; exact Imp.refl _) | (apply Imp.left; apply Imp.left; exact Imp.refl _))) | (apply EvC.now; exact rfl) | (with_reducible first | apply EvAll.cons | exact EvAll.nil))); done) | exact rfl | (first | exact ext_part _ | exact ext_tok _) | (focus (repeat (first | apply List.Mem.head | apply List.Mem.tail | apply List.mem_append_right))))); (simp only [cS, cZ]; exact rfl); clear hR; intro w hR)
        | (go_at_call 42; refine (nextE_any (hR.get (by (focus (repeat (first | apply List.Mem.head | apply List.Mem.tail | apply List.mem_append_right))))) (hS1.own hR)).mono ?_; rintro e w' ⟨rfl, hb⟩; replace hR := hR.grow hb; clear hb)
        | ((with_reducible apply wpList_put hR tPart); exact rfl; exact rfl; exact rfl; (focus (repeat (first | apply List.Mem.head | apply List.Mem.tail | apply List.mem_append_right))); exact put_part _ _; exact rfl; exact Nat.le_refl 14; exact one_part _; (focus (repeat (first | apply Upd.head | apply Upd.tail))); clear hR; intro w hR)
        | ((with_reducible apply wpList_put hR tTok); exact rfl; exact rfl; exact rfl; (focus (repeat (first | apply List.Mem.head | apply List.Mem.tail | apply List.mem_append_right))); exact put_tok _ _; exact rfl; exact Nat.le_refl 4; exact one_tok _; (focus (repeat (first | apply Upd.head | apply Upd.tail))); clear hR; intro w hR)
        | (go_at_call 52; refine (HL.out _).mono ?_; rintro e w' ⟨rfl, hb⟩; replace hR := hR.grow hb; clear hb))
      refine wp_cond_at (nm := true) rfl rfl (fun _ => ?_) (fun h => absurd h (by decide))
      go_upto_region 4 with (first
    | (go_at_call 43; refine (ansR_ok (takeE_any (s := ⟨t :: r, d, m, i⟩) hS1 hR (by (focus (repeat (first | apply Del.head | apply Del.tail))))) (take_cons _ _ _ _ _)).mono ?_; rintro e w' ⟨rfl, v2, hS2, hO⟩; clear hR; have hR := hO; clear hO))
      refine wp_region_someP hR [(g, encTok (nextZ ⟨t :: r, d, m, i⟩), 59)] (by (focus (repeat (with_reducible first | exact List.Sublist.slnil | exact List.nil_sublist _ | exact List.Sublist.refl _ | exact List.sublist_append_right _ _ | apply List.Sublist.cons_cons | apply List.Sublist.cons | apply sub_right)))) [0, 1, 2, 3, 4] 3 ⟨fun _ _ d _ _ h => by cases d <;> exact h⟩ (by kernel_rfl) (by kernel_rfl) (by kernel_rfl) rfl ?_
      clear hR; intro hR
      repeat (refine wpT_step rfl ?_; first
        | ((first | (with_reducible apply q_pl) | ((with_reducible apply q_gd); (first | (apply GdBy.gt; exact rfl; exact rfl) | (apply GdBy.gf; exact rfl; exact rfl) | (apply GdBy.t; exact rfl; exact rfl) | (apply GdBy.f; exact rfl; exact rfl)))); (with_reducible apply t_func); (first | (focus (repeat (first | (apply EvC.gv; exact rfl; (with_reducible first | exact Imp.refl _ | (apply Imp.left; exact Imp.refl _) | (apply Imp.right; exact Imp.refl _) | (apply Imp.left; apply Imp.left; exact Imp.refl _))) | (apply EvC.now; exact rfl) | (with_reducible first | apply EvAll.cons | exact EvAll.nil))); done) | exact rfl | (first | exact ext_part _ | exact ext_tok _) | (focus (repeat (first | apply List.Mem.head | apply List.Mem.tail | apply List.mem_append_right)))); (first | (focus (repeat (first | (apply EvC.gv; exact rfl; (with_reducible first | exact Imp.refl _ | (apply Imp.left; exact Imp.refl _) | (apply Imp.right; exact Imp.refl _) | (apply Imp.left; apply Imp.left; exact Imp.refl _))) | (apply EvC.now; exact rfl) | (with_reducible first | apply EvAll.cons | exact EvAll.nil))); done) | exact rfl | (first | exact ext_part _ | exact ext_tok _) | (focus (repeat (first | apply List.Mem.head | apply List.Mem.tail | apply List.mem_append_right)))); (simp only [cS, cZ]; exact rfl))
        | ((first | (with_reducible apply q_pl) | ((with_reducible apply q_gd); (first | (apply GdBy.gt; exact rfl; exact rfl) | (apply GdBy.gf; exact rfl; exact rfl) | (apply GdBy.t; exact rfl; exact rfl) | (apply GdBy.f; exact rfl; exact rfl)))); (first | ((with_reducible first | apply t_move | apply t_assign | apply t_and | apply t_or | apply t_cmp | apply t_not | apply t_addr fPart6 | apply t_addr fPart7 | apply t_addr (fTok _ (by decide)) | apply t_one tIntV | apply t_one tStrE | apply t_part tPart | apply t_part tTok) <;> (first | (focus (repeat (first | (apply EvC.gv; exact rfl; (with_reducible first | exact Imp.refl _ | (apply Imp.left; exact Imp.refl _) | (apply Imp.right; exact Imp.refl _) | (apply Imp.left; apply Imp.left; exact Imp.refl _))) | (apply EvC.now; exact rfl) | (with_reducible first | apply EvAll.cons | exact EvAll.nil))); done) | exact rfl | (first | exact ext_part _ | exact ext_tok _) | (focus (repeat (first | apply List.Mem.head | apply List.Mem.tail | apply List.mem_append_right)))))); (simp only [cS, cZ]; exact rfl)))
      refine wpT_nil ?_
      refine wpG_many hR (rs := [5]) (by decide +kernel) rfl (fun w hR => ⟨?_, trivial⟩)
      refine opCallOk Tryd.call54 rfl rfl rfl ((ansR_ok (HD.out ⟨r, d, m, i⟩ _ _ _ _ (by rw [HM.out]; trivial) hS2 hR (by (focus (repeat (first | apply Del.head | apply Del.tail)))) (fun _ h => nomatch h)) HM.out).mono ?_)
      rintro en w' ⟨rfl, v3, hS3, hO⟩
      refine ⟨_, rfl, hO.drop (by (focus (repeat (with_reducible first | exact List.Sublist.slnil | exact List.nil_sublist _ | exact List.Sublist.refl _ | exact List.sublist_append_right _ _ | apply List.Sublist.cons_cons | apply List.Sublist.cons | apply sub_right)))), ?_⟩
      clear hR; have hR := hO; clear hO
      simp only [cS, cZ]
      refine wpG_many hR (rs := [6]) (by decide +kernel) rfl (fun w hR => ⟨?_, trivial⟩)
      refine opCallOk Tryd.call53 rfl rfl rfl ((ansO_ok (HW.out p _) HA.out).mono ?_)
      rintro en w' ⟨rfl, hb⟩
      refine ⟨_, rfl, (hR.grow hb).drop (by (focus (repeat (with_reducible first | exact List.Sublist.slnil | exact List.nil_sublist _ | exact List.Sublist.refl _ | exact List.sublist_append_right _ _ | apply List.Sublist.cons_cons | apply List.Sublist.cons | apply sub_right)))), ?_⟩
      replace hR := hR.grow hb
      clear hb
      simp only [cS, cZ]
      refine wpG_put (c := encPt zeroPart) hR tPart (i := 7) (by kernel_rfl) rfl rfl rfl (by (focus (repeat (first | apply List.Mem.head | apply List.Mem.tail | apply List.mem_append_right)))) (put_part _ _) rfl (Nat.le_refl 14) (one_part _) (by (focus (repeat (first | apply Upd.head | apply Upd.tail)))) (by (focus (repeat (with_reducible first | exact List.Sublist.slnil | exact List.nil_sublist _ | exact List.Sublist.refl _ | exact List.sublist_append_right _ _ | apply List.Sublist.cons_cons | apply List.Sublist.cons | apply sub_right)))) ?_
      clear hR; intro w hR
      refine wpG_endP hR (by kernel_rfl) ?_
      clear hR; intro w hR
      go_wp2_with fail
      (try simp only [Exit.inBlock, Exit.then])
      exact post_row hR rfl (by rfl) (by (focus (repeat (first | apply List.Mem.head | apply List.Mem.tail | apply List.mem_append_right)))) Tryd.underlying69 rfl iPart (by rfl) (by rfl) ⟨rfl, _, hS3, (hR.lead (by (focus (repeat (first | apply Del.head | apply Del.tail))))).drop (List.Sublist.cons_cons _ (by (focus (repeat (with_reducible first | exact List.Sublist.slnil | exact List.nil_sublist _ | exact List.Sublist.refl _ | exact List.sublist_append_right _ _ | apply List.Sublist.cons_cons | apply List.Sublist.cons | apply sub_right)))))⟩
  · have HM := Lib.hid hm
    refine badR_ans ?_ rfl
    clear hm hgot
    go_enter Tryd.func40, Tryd.ntmps40
    go_upto_if 8 with (first
      | ((with_reducible apply wpList_box hR); exact rfl; exact rfl; clear hR; intro g w hR; simp only [cS, cZ])
      | ((with_reducible apply wpList_make hR zPart); exact rfl; clear hR; intro g w hR; simp only [cS, cZ])
      | ((with_reducible apply wpList_make hR zTok); exact rfl; clear hR; intro g w hR; simp only [cS, cZ])
      | ((with_reducible apply q_ls hR); exact rfl; ((with_reducible first | apply t_addr fPart6 | apply t_addr fPart7 | apply t_addr (fTok _ (by decide)) | apply t_one tIntV | apply t_one tStrE | apply t_part tPart | apply t_part tTok) <;> (first | (focus (repeat (first | (apply EvC.gv; exact rfl; (with_reducible first | exact Imp.refl _ | (apply Imp.left; exact Imp.refl _) | (apply Imp.right; exact Imp.refl _) | (apply Imp.left; apply Imp.left; exact Imp.refl _))) | (apply EvC.now; exact rfl) | (with_reducible first | apply EvAll.cons | exact EvAll.nil))); done) | exact rfl | (first | exact ext_part _ | exact ext_tok _) | (focus (repeat (first | apply List.Mem.head | apply List.Mem.tail | apply List.mem_append_right))))); (simp only [cS, cZ]; exact rfl); clear hR; intro w hR)
      | (go_at_call 42; refine (nextE_any (hR.get (by (focus (repeat (first | apply List.Mem.head | apply List.Mem.tail | apply List.mem_append_right))))) (hS1.own hR)).mono ?_; rintro e w' ⟨rfl, hb⟩; replace hR := hR.grow hb; clear hb)
      | ((with_reducible apply wpList_put hR tPart); exact rfl; exact rfl; exact rfl; (focus (repeat (first | apply List.Mem.head | apply List.Mem.tail | apply List.mem_append_right))); exact put_part _ _; exact rfl; exact Nat.le_refl 14; exact one_part _; (focus (repeat (first | apply Upd.head | apply Upd.tail))); clear hR; intro w hR)
      | ((with_reducible apply wpList_put hR tTok); exact rfl; exact rfl; exact rfl; (focus (repeat (first | apply List.Mem.head | apply List.Mem.tail | apply List.mem_append_right))); exact put_tok _ _; exact rfl; exact Nat.le_refl 4; exact one_tok _; (focus (repeat (first | apply Upd.head | apply Upd.tail))); clear hR; intro w hR)
      | (go_at_call 52; refine (HL.out _).mono ?_; rintro e w' ⟨rfl, hb⟩; replace hR := hR.grow hb; clear hb))
    refine wp_cond_at (nm := true) rfl rfl (fun _ => ?_) (fun h => absurd h (by decide))
    go_upto_region 4 with (first
    | (go_at_call 43; refine (ansR_ok (takeE_any (s := ⟨t :: r, d, m, i⟩) hS1 hR (by (focus (repeat (first | apply Del.head | apply Del.tail))))) (take_cons _ _ _ _ _)).mono ?_; rintro e w' ⟨rfl, v2, hS2, hO⟩; clear hR; have hR := hO; clear hO))
    refine wp_region_someP hR [(g, encTok (nextZ ⟨t :: r, d, m, i⟩), 59)] (by (focus (repeat (with_reducible first | exact List.Sublist.slnil | exact List.nil_sublist _ | exact List.Sublist.refl _ | exact List.sublist_append_right _ _ | apply List.Sublist.cons_cons | apply List.Sublist.cons | apply sub_right)))) [0, 1, 2, 3, 4] 3 ⟨fun _ _ d _ _ h => by cases d <;> exact h⟩ (by kernel_rfl) (by kernel_rfl) (by kernel_rfl) rfl ?_
    clear hR; intro hR
    repeat (refine wpT_step rfl ?_; first
      | ((first | (with_reducible apply q_pl) | ((with_reducible apply q_gd); (first | (apply GdBy.gt; exact rfl; exact rfl) | (apply GdBy.gf; exact rfl; exact rfl) | (apply GdBy.t; exact rfl; exact rfl) | (apply GdBy.f; exact rfl; exact rfl)))); (with_reducible apply t_func); (first | (focus (repeat (first | (apply EvC.gv; exact rfl; (with_reducible first | exact Imp.refl _ | (apply Imp.left; exact Imp.refl _) | (apply Imp.right; exact Imp.refl _) | (apply Imp.left; apply Imp.left; exact Imp.refl _))) | (apply EvC.now; exact rfl) | (with_reducible first | apply EvAll.cons | exact EvAll.nil))); done) | exact rfl | (first | exact ext_part _ | exact ext_tok _) | (focus (repeat (first | apply List.Mem.head | apply List.Mem.tail | apply List.mem_append_right)))); (first | (focus (repeat (first | (apply EvC.gv; exact rfl; (with_reducible first | exact Imp.refl _ | (apply Imp.left; exact Imp.refl _) | (apply Imp.right; exact Imp.refl _) | (apply Imp.left; apply Imp.left; exact Imp.refl _))) | (apply EvC.now; exact rfl) | (with_reducible first | apply EvAll.cons | exact EvAll.nil))); done) | exact rfl | (first | exact ext_part _ | exact ext_tok _) | (focus (repeat (first | apply List.Mem.head | apply List.Mem.tail | apply List.mem_append_right)))); (simp only [cS, cZ]; exact rfl))
      | ((first | (with_reducible apply q_pl) | ((with_reducible apply q_gd); (first | (apply GdBy.gt; exact rfl; exact rfl) | (apply GdBy.gf; exact rfl; exact rfl) | (apply GdBy.t; exact rfl; exact rfl) | (apply GdBy.f; exact rfl; exact rfl)))); (first | ((with_reducible first | apply t_move | apply t_assign | apply t_and | apply t_or | apply t_cmp | apply t_not | apply t_addr fPart6 | apply t_addr fPart7 | apply t_addr (fTok _ (by decide)) | apply t_one tIntV | apply t_one tStrE | apply t_part tPart | apply t_part tTok) <;> (first | (focus (repeat (first | (apply EvC.gv; exact rfl; (with_reducible first | exact Imp.refl _ | (apply Imp.left; exact Imp.refl _) | (apply Imp.right; exact Imp.refl _) | (apply Imp.left; apply Imp.left; exact Imp.refl _))) | (apply EvC.now; exact rfl) | (with_reducible first | apply EvAll.cons | exact EvAll.nil))); done) | exact rfl | (first | exact ext_part _ | exact ext_tok _) | (focus (repeat (first | apply List.Mem.head | apply List.Mem.tail | apply List.mem_append_right)))))); (simp only [cS, cZ]; exact rfl)))
    refine wpT_nil ?_
    refine wpG_many hR (rs := [5]) (by decide +kernel) rfl (fun w hR => ⟨?_, trivial⟩)
    refine opCallBad Tryd.call54 rfl rfl rfl ((ansR_bad (HD.out ⟨r, d, m, i⟩ _ _ _ _ (by rw [HM.out]; trivial) hS2 hR (by (focus (repeat (first | apply Del.head | apply Del.tail)))) (fun _ h => nomatch h)) HM.out).mono ?_)
    rintro en w' ⟨rfl, hO⟩
    exact ⟨_, rfl, rfl, rfl, hO.drop (by (focus (repeat (with_reducible first | exact List.Sublist.slnil | exact List.nil_sublist _ | exact List.Sublist.refl _ | exact List.sublist_append_right _ _ | apply List.Sublist.cons_cons | apply List.Sublist.cons | apply sub_right))))⟩
  · exfalso; rw [hm] at hgot; exact hgot
/-! ### A type, and PTR -/
theorem wpList_funcA {P : Program} {ops : Array Oper} {rest : List Oper} {Q : Exit → Act → World → Prop} {ls : List Value} {ds : List Deferred} {w : World} {tp : TypeId} {pos : String} {af : Array Edge} {gd : Option (Nat × Bool)} {d : Tmp} {fn : Fn} {fs xs : Array Operand} {us vs : List Value}
    (hgd : Region.wanted ⟨some d, .makeFunc fn fs xs, tp, pos, af, gd⟩ (yielded ops ls.toArray) = true) (hf : evalAll ls fs.toList = some us) (hx : evalAll ls xs.toList = some vs)
    (h : wpList P ops Q rest ⟨(ls.set d (.func fn us.toArray vs.toArray)).toArray, ds⟩ w) :
    wpList P ops Q (⟨some d, .makeFunc fn fs xs, tp, pos, af, gd⟩ :: rest) ⟨ls.toArray, ds⟩ w := by
  have ha' : xs.map (⟨ls.toArray, ds⟩ : Act).eval = vs.toArray := by
    apply Array.toList_inj.1
    rw [Array.toList_map, evalAll_of hx]
  have hb' : fs.map (⟨ls.toArray, ds⟩ : Act).eval = us.toArray := by
    apply Array.toList_inj.1
    rw [Array.toList_map, evalAll_of hf]
  refine wpList_run_value (v := .func fn us.toArray vs.toArray) (w' := w) hgd ?_ (by rw [put_list]; exact h)
  unfold execOp
  simp [Instr.makeFunc, ha', hb']
set_option maxHeartbeats 8000000 in
theorem ptrA_any {w0 : World} {gr : Nat} {tb : TabZ} {ah : St → Rs PartZ} (hD : RdOk w0 gr tb [] 54 #[.pointer (some ⟨gr, 0, none⟩), .func (.func 40) #[.pointer (some ⟨gr, 0, none⟩)] #[]] (deepM ah)) {t : TokZ} {rest : List TokZ} {d m i : Int} (hl : leadsZ t = false) (hp : (decide (t.k = 1) && !decide (pointedZ t.s = 0)) = true)
    {v : Value} {w : World} {L R : List RowT} (hgot : (ptrM ah (pointedZ t.s) ⟨rest, d, m, i⟩).got) (hS1 : Toks w0 v (t :: rest)) (hO : Own w0 w L) (hd : Del (gr, rdr v tb ⟨t :: rest, d, m, i⟩, 66) L R) :
    Calls Tryd.prog 40 #[.pointer (some ⟨gr, 0, none⟩)] w (AnsR w0 gr tb partV R (ptrM ah (pointedZ t.s) ⟨rest, d, m, i⟩)) := by
  have hR := hO.lead hd
  have HD := Lib.hid hD
  have ht := hS1.ok t (.head _)
  have hle := fun w0 => leadsE_any (t := t) ht w0
  rw [hl] at hle
  have HL := Lib.hid hle
  have HP := Lib.hid hp
  clear hO hd hD hle hl hp
  rcases rest with _ | ⟨u, r⟩
  · refine badR_ans ?_ (show ptrM ah (pointedZ t.s) ⟨[], d, m, i⟩ = .bad 3 from rfl)
    go_enter Tryd.func40, Tryd.ntmps40
    go_upto_if 8 with (first
      | ((with_reducible apply wpList_box hR); exact rfl; exact rfl; clear hR; intro g w hR; simp only [cS, cZ])
      | ((with_reducible apply wpList_make hR zPart); exact rfl; clear hR; intro g w hR; simp only [cS, cZ])
      | ((with_reducible apply wpList_make hR zTok); exact rfl; clear hR; intro g w hR; simp only [cS, cZ])
      | ((with_reducible apply q_ls hR); exact rfl; ((with_reducible first | apply t_addr fPart6 | apply t_addr fPart7 | apply t_addr (fTok _ (by decide)) | apply t_one tIntV | apply t_one tStrE | apply t_part tPart | apply t_part tTok) <;> (first | (focus (repeat (first | (apply EvC.gv; exact rfl; (with_reducible first | exact Imp.refl _ | (apply Imp.left; exact Imp.refl _) | (apply Imp.right; exact Imp.refl _) | (apply Imp.left; apply Imp.left; exact Imp.refl _))) | (apply EvC.now; exact rfl) | (with_reducible first | apply EvAll.cons | exact EvAll.nil))); done) | exact rfl | (first | exact ext_part _ | exact ext_tok _) | (focus (repeat (first | apply List.Mem.head | apply List.Mem.tail | apply List.mem_append_right))))); (simp only [cS, cZ]; exact rfl); clear hR; intro w hR)
      | (go_at_call 42; refine (nextE_any (hR.get (by (focus (repeat (first | apply List.Mem.head | apply List.Mem.tail | apply List.mem_append_right))))) (hS1.own hR)).mono ?_; rintro e w' ⟨rfl, hb⟩; replace hR := hR.grow hb; clear hb)
      | ((with_reducible apply wpList_put hR tPart); exact rfl; exact rfl; exact rfl; (focus (repeat (first | apply List.Mem.head | apply List.Mem.tail | apply List.mem_append_right))); exact put_part _ _; exact rfl; exact Nat.le_refl 14; exact one_part _; (focus (repeat (first | apply Upd.head | apply Upd.tail))); clear hR; intro w hR)
      | ((with_reducible apply wpList_put hR tTok); exact rfl; exact rfl; exact rfl; (focus (repeat (first | apply List.Mem.head | apply List.Mem.tail | apply List.mem_append_right))); exact put_tok _ _; exact rfl; exact Nat.le_refl 4; exact one_tok _; (focus (repeat (first | apply Upd.head | apply Upd.tail))); clear hR; intro w hR)
      | (go_at_call 52; refine (HL.out _).mono ?_; rintro e w' ⟨rfl, hb⟩; replace hR := hR.grow hb; clear hb))
    refine wp_cond_at (nm := false) rfl rfl (fun h => absurd h (by decide)) (fun _ => ?_)
    go_upto_region 5 with fail
    refine wp_region_tame hR [0, 1, 2, 3, 4, 5, 6, 7, 8, 9] rfl ?_
    repeat (refine wpT_step rfl ?_; first
    | ((first | (with_reducible apply q_pl) | ((with_reducible apply q_gd); (first | (apply GdBy.gt; exact rfl; exact rfl) | (apply GdBy.gf; exact rfl; exact rfl) | (apply GdBy.t; exact rfl; exact rfl) | (apply GdBy.f; exact rfl; exact rfl)))); (first | ((with_reducible first | apply t_move | apply t_assign | apply t_and | apply t_or | apply t_cmp | apply t_not | apply t_addr fPart6 | apply t_addr fPart7 | apply t_addr (fTok _ (by decide)) | apply t_one tIntV | apply t_one tStrE | apply t_part tPart | apply t_part tTok) <;> (first | (focus (repeat (first | (apply EvC.gv; exact rfl; (with_reducible first | exact Imp.refl _ | (apply Imp.left; exact Imp.refl _) | (apply Imp.right; exact Imp.refl _) | (apply Imp.left; apply Imp.left; exact Imp.refl _))) | (apply EvC.now; exact rfl) | (with_reducible first | apply EvAll.cons | exact EvAll.nil))); done) | exact rfl | (first | exact ext_part _ | exact ext_tok _) | (focus (repeat (first | apply List.Mem.head | apply List.Mem.tail | apply List.mem_append_right)))))); (simp only [cS, cZ]; exact rfl))
    | ((first | (with_reducible apply q_pl) | ((with_reducible apply q_gd); (first | (apply GdBy.gt; exact rfl; exact rfl) | (apply GdBy.gf; exact rfl; exact rfl) | (apply GdBy.t; exact rfl; exact rfl) | (apply GdBy.f; exact rfl; exact rfl)))); (with_reducible apply t_call Tryd.call55); (first | (focus (repeat (first | (apply EvC.gv; exact rfl; (with_reducible first | exact Imp.refl _ | (apply Imp.left; exact Imp.refl _) | (apply Imp.right; exact Imp.refl _) | (apply Imp.left; apply Imp.left; exact Imp.refl _))) | (apply EvC.now; exact rfl) | (with_reducible first | apply EvAll.cons | exact EvAll.nil))); done) | exact rfl | (first | exact ext_part _ | exact ext_tok _) | (focus (repeat (first | apply List.Mem.head | apply List.Mem.tail | apply List.mem_append_right)))); (intro hcc w hC; exact tame_same' (pointE_any ht _) hC); (simp only [cS, cZ]; exact rfl))
    | ((with_reducible apply q_gd); (first | (apply GdBy.gt; exact rfl; exact rfl) | (apply GdBy.gf; exact rfl; exact rfl) | (apply GdBy.t; exact rfl; exact rfl) | (apply GdBy.f; exact rfl; exact rfl)); ((with_reducible apply t_num) <;> (first | (focus (repeat (first | (apply EvC.gv; exact rfl; (with_reducible first | exact Imp.refl _ | (apply Imp.left; exact Imp.refl _) | (apply Imp.right; exact Imp.refl _) | (apply Imp.left; apply Imp.left; exact Imp.refl _))) | (apply EvC.now; exact rfl) | (with_reducible first | apply EvAll.cons | exact EvAll.nil))); done) | exact rfl | (first | exact ext_part _ | exact ext_tok _) | (focus (repeat (first | apply List.Mem.head | apply List.Mem.tail | apply List.mem_append_right))))); (simp only [cS, cZ]; exact rfl))
    | ((with_reducible apply wpT1_gpure); (first | (apply GdBy.gt; exact rfl; exact rfl) | (apply GdBy.gf; exact rfl; exact rfl) | (apply GdBy.t; exact rfl; exact rfl) | (apply GdBy.f; exact rfl; exact rfl)); intro K hK; go_simp; refine hK _ ?_; clear hK K; simp only [cS, cZ])
    | ((with_reducible apply wpT1_pure); exact rfl; intro K hK; go_simp; refine hK _ ?_; clear hK K; simp only [cS, cZ]))
    refine wpT_nil ?_
    clear hR; intro w hR
    go_upto_if 20 with fail
    refine wp_cond_at (nm := true) rfl HP.out (fun _ => ?_) (fun h => absurd h (by decide))
    go_upto_region 7 with (first
    | (go_at_call 43; refine (ansR_ok (takeE_any (s := ⟨[t], d, m, i⟩) hS1 hR (by (focus (repeat (first | apply Del.head | apply Del.tail))))) (take_cons _ _ _ _ _)).mono ?_; rintro e w' ⟨rfl, v2, hS2, hO⟩; clear hR; have hR := hO; clear hO))
    go_wp2_with (first
    | (go_at_call 43; refine (ansR_bad (takeE_any (s := ⟨[], d, m, i⟩) hS2 hR (by (focus (repeat (first | apply Del.head | apply Del.tail))))) rfl).mono ?_; rintro e w' ⟨rfl, hO⟩; clear hR; have hR := hO; clear hO))
    exact ⟨rfl, rfl, hR.drop (by (focus (repeat (with_reducible first | exact List.Sublist.slnil | exact List.nil_sublist _ | exact List.Sublist.refl _ | exact List.sublist_append_right _ _ | apply List.Sublist.cons_cons | apply List.Sublist.cons | apply sub_right))))⟩
  have hu := hS1.ok u (.tail _ (.head _))
  have hi := fun w0 => isE_any (t := u) 1 hu oksPTR w0
  rw [show ptrM ah (pointedZ t.s) ⟨u :: r, d, m, i⟩ = bif isZ u 1 sPTR then kindR (pointedZ t.s) (deepM ah ⟨r, d, m, i⟩) else .bad 3 from rfl] at hgot ⊢
  cases hb : isZ u 1 sPTR
  · rw [hb] at hi
    rw [cond_false]
    refine badR_ans ?_ rfl
    have HI := Lib.hid hi
    clear hb hi hgot
    go_enter Tryd.func40, Tryd.ntmps40
    go_upto_if 8 with (first
      | ((with_reducible apply wpList_box hR); exact rfl; exact rfl; clear hR; intro g w hR; simp only [cS, cZ])
      | ((with_reducible apply wpList_make hR zPart); exact rfl; clear hR; intro g w hR; simp only [cS, cZ])
      | ((with_reducible apply wpList_make hR zTok); exact rfl; clear hR; intro g w hR; simp only [cS, cZ])
      | ((with_reducible apply q_ls hR); exact rfl; ((with_reducible first | apply t_addr fPart6 | apply t_addr fPart7 | apply t_addr (fTok _ (by decide)) | apply t_one tIntV | apply t_one tStrE | apply t_part tPart | apply t_part tTok) <;> (first | (focus (repeat (first | (apply EvC.gv; exact rfl; (with_reducible first | exact Imp.refl _ | (apply Imp.left; exact Imp.refl _) | (apply Imp.right; exact Imp.refl _) | (apply Imp.left; apply Imp.left; exact Imp.refl _))) | (apply EvC.now; exact rfl) | (with_reducible first | apply EvAll.cons | exact EvAll.nil))); done) | exact rfl | (first | exact ext_part _ | exact ext_tok _) | (focus (repeat (first | apply List.Mem.head | apply List.Mem.tail | apply List.mem_append_right))))); (simp only [cS, cZ]; exact rfl); clear hR; intro w hR)
      | (go_at_call 42; refine (nextE_any (hR.get (by (focus (repeat (first | apply List.Mem.head | apply List.Mem.tail | apply List.mem_append_right))))) (hS1.own hR)).mono ?_; rintro e w' ⟨rfl, hb⟩; replace hR := hR.grow hb; clear hb)
      | ((with_reducible apply wpList_put hR tPart); exact rfl; exact rfl; exact rfl; (focus (repeat (first | apply List.Mem.head | apply List.Mem.tail | apply List.mem_append_right))); exact put_part _ _; exact rfl; exact Nat.le_refl 14; exact one_part _; (focus (repeat (first | apply Upd.head | apply Upd.tail))); clear hR; intro w hR)
      | ((with_reducible apply wpList_put hR tTok); exact rfl; exact rfl; exact rfl; (focus (repeat (first | apply List.Mem.head | apply List.Mem.tail | apply List.mem_append_right))); exact put_tok _ _; exact rfl; exact Nat.le_refl 4; exact one_tok _; (focus (repeat (first | apply Upd.head | apply Upd.tail))); clear hR; intro w hR)
      | (go_at_call 52; refine (HL.out _).mono ?_; rintro e w' ⟨rfl, hb⟩; replace hR := hR.grow hb; clear hb))
    refine wp_cond_at (nm := false) rfl rfl (fun h => absurd h (by decide)) (fun _ => ?_)
    go_upto_region 5 with fail
    refine wp_region_tame hR [0, 1, 2, 3, 4, 5, 6, 7, 8, 9] rfl ?_
    repeat (refine wpT_step rfl ?_; first
    | ((first | (with_reducible apply q_pl) | ((with_reducible apply q_gd); (first | (apply GdBy.gt; exact rfl; exact rfl) | (apply GdBy.gf; exact rfl; exact rfl) | (apply GdBy.t; exact rfl; exact rfl) | (apply GdBy.f; exact rfl; exact rfl)))); (first | ((with_reducible first | apply t_move | apply t_assign | apply t_and | apply t_or | apply t_cmp | apply t_not | apply t_addr fPart6 | apply t_addr fPart7 | apply t_addr (fTok _ (by decide)) | apply t_one tIntV | apply t_one tStrE | apply t_part tPart | apply t_part tTok) <;> (first | (focus (repeat (first | (apply EvC.gv; exact rfl; (with_reducible first | exact Imp.refl _ | (apply Imp.left; exact Imp.refl _) | (apply Imp.right; exact Imp.refl _) | (apply Imp.left; apply Imp.left; exact Imp.refl _))) | (apply EvC.now; exact rfl) | (with_reducible first | apply EvAll.cons | exact EvAll.nil))); done) | exact rfl | (first | exact ext_part _ | exact ext_tok _) | (focus (repeat (first | apply List.Mem.head | apply List.Mem.tail | apply List.mem_append_right)))))); (simp only [cS, cZ]; exact rfl))
    | ((first | (with_reducible apply q_pl) | ((with_reducible apply q_gd); (first | (apply GdBy.gt; exact rfl; exact rfl) | (apply GdBy.gf; exact rfl; exact rfl) | (apply GdBy.t; exact rfl; exact rfl) | (apply GdBy.f; exact rfl; exact rfl)))); (with_reducible apply t_call Tryd.call55); (first | (focus (repeat (first | (apply EvC.gv; exact rfl; (with_reducible first | exact Imp.refl _ | (apply Imp.left; exact Imp.refl _) | (apply Imp.right; exact Imp.refl _) | (apply Imp.left; apply Imp.left; exact Imp.refl _))) | (apply EvC.now; exact rfl) | (with_reducible first | apply EvAll.cons | exact EvAll.nil))); done) | exact rfl | (first | exact ext_part _ | exact ext_tok _) | (focus (repeat (first | apply List.Mem.head | apply List.Mem.tail | apply List.mem_append_right)))); (intro hcc w hC; exact tame_same' (pointE_any ht _) hC); (simp only [cS, cZ]; exact rfl))
    | ((with_reducible apply q_gd); (first | (apply GdBy.gt; exact rfl; exact rfl) | (apply GdBy.gf; exact rfl; exact rfl) | (apply GdBy.t; exact rfl; exact rfl) | (apply GdBy.f; exact rfl; exact rfl)); ((with_reducible apply t_num) <;> (first | (focus (repeat (first | (apply EvC.gv; exact rfl; (with_reducible first | exact Imp.refl _ | (apply Imp.left; exact Imp.refl _) | (apply Imp.right; exact Imp.refl _) | (apply Imp.left; apply Imp.left; exact Imp.refl _))) | (apply EvC.now; exact rfl) | (with_reducible first | apply EvAll.cons | exact EvAll.nil))); done) | exact rfl | (first | exact ext_part _ | exact ext_tok _) | (focus (repeat (first | apply List.Mem.head | apply List.Mem.tail | apply List.mem_append_right))))); (simp only [cS, cZ]; exact rfl))
    | ((with_reducible apply wpT1_gpure); (first | (apply GdBy.gt; exact rfl; exact rfl) | (apply GdBy.gf; exact rfl; exact rfl) | (apply GdBy.t; exact rfl; exact rfl) | (apply GdBy.f; exact rfl; exact rfl)); intro K hK; go_simp; refine hK _ ?_; clear hK K; simp only [cS, cZ])
    | ((with_reducible apply wpT1_pure); exact rfl; intro K hK; go_simp; refine hK _ ?_; clear hK K; simp only [cS, cZ]))
    refine wpT_nil ?_
    clear hR; intro w hR
    go_upto_if 20 with fail
    refine wp_cond_at (nm := true) rfl HP.out (fun _ => ?_) (fun h => absurd h (by decide))
    go_upto_region 7 with (first
    | (go_at_call 43; refine (ansR_ok (takeE_any (s := ⟨t :: u :: r, d, m, i⟩) hS1 hR (by (focus (repeat (first | apply Del.head | apply Del.tail))))) (take_cons _ _ _ _ _)).mono ?_; rintro e w' ⟨rfl, v2, hS2, hO⟩; clear hR; have hR := hO; clear hO))
    go_wp2_with (first
    | (go_at_call 43; refine (ansR_ok (takeE_any (s := ⟨u :: r, d, m, i⟩) hS2 hR (by (focus (repeat (first | apply Del.head | apply Del.tail))))) (take_cons _ _ _ _ _)).mono ?_; rintro e w' ⟨rfl, v3, hS3, hO⟩; clear hR; have hR := hO; clear hO)
    | (go_at_call 56; refine (HI.out _).mono ?_; rintro e w' ⟨rfl, hb⟩; replace hR := hR.grow hb; clear hb)
    | (go_at_call 30; refine (needE_no _).mono ?_; rintro e w' ⟨rfl, rfl⟩))
    exact ⟨rfl, rfl, hR.drop (by (focus (repeat (with_reducible first | exact List.Sublist.slnil | exact List.nil_sublist _ | exact List.Sublist.refl _ | exact List.sublist_append_right _ _ | apply List.Sublist.cons_cons | apply List.Sublist.cons | apply sub_right))))⟩
  rw [hb] at hi hgot
  rw [cond_true] at hgot ⊢
  have HI := Lib.hid hi
  clear hb hi
  rcases hm : deepM ah ⟨r, d, m, i⟩ with ⟨p, s2⟩ | e | _
  · have HM := Lib.hid hm
    refine okR_ans ?_ (show kindR (pointedZ t.s) (Rs.ok p s2) = .ok (setKi p (pointedZ t.s)) s2 from rfl)
    clear hm hgot
    go_enter Tryd.func40, Tryd.ntmps40
    go_upto_if 8 with (first
      | ((with_reducible apply wpList_box hR); exact rfl; exact rfl; clear hR; intro g w hR; simp only [cS, cZ])
      | ((with_reducible apply wpList_make hR zPart); exact rfl; clear hR; intro g w hR; simp only [cS, cZ])
      | ((with_reducible apply wpList_make hR zTok); exact rfl; clear hR; intro g w hR; simp only [cS, cZ])
      | ((with_reducible apply q_ls hR); exact rfl; ((with_reducible first | apply t_addr fPart6 | apply t_addr fPart7 | apply t_addr (fTok _ (by decide)) | apply t_one tIntV | apply t_one tStrE | apply t_part tPart | apply t_part tTok) <;> (first | (focus (repeat (first | (apply EvC.gv; exact rfl; (with_reducible first | exact Imp.refl _ | (apply Imp.left; exact Imp.refl _) | (apply Imp.right; exact Imp.refl _) | (apply Imp.left; apply Imp.left; exact Imp.refl _))) | (apply EvC.now; exact rfl) | (with_reducible first | apply EvAll.cons | exact EvAll.nil))); done) | exact rfl | (first | exact ext_part _ | exact ext_tok _) | (focus (repeat (first | apply List.Mem.head | apply List.Mem.tail | apply List.mem_append_right))))); (simp only [cS, cZ]; exact rfl); clear hR; intro w hR)
      | (go_at_call 42; refine (nextE_any (hR.get (by (focus (repeat (first | apply List.Mem.head | apply List.Mem.tail | apply List.mem_append_right))))) (hS1.own hR)).mono ?_; rintro e w' ⟨rfl, hb⟩; replace hR := hR.grow hb; clear hb)
      | ((with_reducible apply wpList_put hR tPart); exact rfl; exact rfl; exact rfl; (focus (repeat (first | apply List.Mem.head | apply List.Mem.tail | apply List.mem_append_right))); exact put_part _ _; exact rfl; exact Nat.le_refl 14; exact one_part _; (focus (repeat (first | apply Upd.head | apply Upd.tail))); clear hR; intro w hR)
      | ((with_reducible apply wpList_put hR tTok); exact rfl; exact rfl; exact rfl; (focus (repeat (first | apply List.Mem.head | apply List.Mem.tail | apply List.mem_append_right))); exact put_tok _ _; exact rfl; exact Nat.le_refl 4; exact one_tok _; (focus (repeat (first | apply Upd.head | apply Upd.tail))); clear hR; intro w hR)
      | (go_at_call 52; refine (HL.out _).mono ?_; rintro e w' ⟨rfl, hb⟩; replace hR := hR.grow hb; clear hb))
    refine wp_cond_at (nm := false) rfl rfl (fun h => absurd h (by decide)) (fun _ => ?_)
    go_upto_region 5 with fail
    refine wp_region_tame hR [0, 1, 2, 3, 4, 5, 6, 7, 8, 9] rfl ?_
    repeat (refine wpT_step rfl ?_; first
    | ((first | (with_reducible apply q_pl) | ((with_reducible apply q_gd); (first | (apply GdBy.gt; exact rfl; exact rfl) | (apply GdBy.gf; exact rfl; exact rfl) | (apply GdBy.t; exact rfl; exact rfl) | (apply GdBy.f; exact rfl; exact rfl)))); (first | ((with_reducible first | apply t_move | apply t_assign | apply t_and | apply t_or | apply t_cmp | apply t_not | apply t_addr fPart6 | apply t_addr fPart7 | apply t_addr (fTok _ (by decide)) | apply t_one tIntV | apply t_one tStrE | apply t_part tPart | apply t_part tTok) <;> (first | (focus (repeat (first | (apply EvC.gv; exact rfl; (with_reducible first | exact Imp.refl _ | (apply Imp.left; exact Imp.refl _) | (apply Imp.right; exact Imp.refl _) | (apply Imp.left; apply Imp.left; exact Imp.refl _))) | (apply EvC.now; exact rfl) | (with_reducible first | apply EvAll.cons | exact EvAll.nil))); done) | exact rfl | (first | exact ext_part _ | exact ext_tok _) | (focus (repeat (first | apply List.Mem.head | apply List.Mem.tail | apply List.mem_append_right)))))); (simp only [cS, cZ]; exact rfl))
    | ((first | (with_reducible apply q_pl) | ((with_reducible apply q_gd); (first | (apply GdBy.gt; exact rfl; exact rfl) | (apply GdBy.gf; exact rfl; exact rfl) | (apply GdBy.t; exact rfl; exact rfl) | (apply GdBy.f; exact rfl; exact rfl)))); (with_reducible apply t_call Tryd.call55); (first | (focus (repeat (first | (apply EvC.gv; exact rfl; (with_reducible first | exact Imp.refl _ | (apply Imp.left; exact Imp.refl _) | (apply Imp.right; exact Imp.refl _) | (apply Imp.left; apply Imp.left; exact Imp.refl _))) | (apply EvC.now; exact rfl) | (with_reducible first | apply EvAll.cons | exact EvAll.nil))); done) | exact rfl | (first | exact ext_part _ | exact ext_tok _) | (focus (repeat (first | apply List.Mem.head | apply List.Mem.tail | apply List.mem_append_right)))); (intro hcc w hC; exact tame_same' (pointE_any ht _) hC); (simp only [cS, cZ]; exact rfl))
    | ((with_reducible apply q_gd); (first | (apply GdBy.gt; exact rfl; exact rfl) | (apply GdBy.gf; exact rfl; exact rfl) | (apply GdBy.t; exact rfl; exact rfl) | (apply GdBy.f; exact rfl; exact rfl)); ((with_reducible apply t_num) <;> (first | (focus (repeat (first | (apply EvC.gv; exact rfl; (with_reducible first | exact Imp.refl _ | (apply Imp.left; exact Imp.refl _) | (apply Imp.right; exact Imp.refl _) | (apply Imp.left; apply Imp.left; exact Imp.refl _))) | (apply EvC.now; exact rfl) | (with_reducible first | apply EvAll.cons | exact EvAll.nil))); done) | exact rfl | (first | exact ext_part _ | exact ext_tok _) | (focus (repeat (first | apply List.Mem.head | apply List.Mem.tail | apply List.mem_append_right))))); (simp only [cS, cZ]; exact rfl))
    | ((with_reducible apply wpT1_gpure); (first | (apply GdBy.gt; exact rfl; exact rfl) | (apply GdBy.gf; exact rfl; exact rfl) | (apply GdBy.t; exact rfl; exact rfl) | (apply GdBy.f; exact rfl; exact rfl)); intro K hK; go_simp; refine hK _ ?_; clear hK K; simp only [cS, cZ])
    | ((with_reducible apply wpT1_pure); exact rfl; intro K hK; go_simp; refine hK _ ?_; clear hK K; simp only [cS, cZ]))
    refine wpT_nil ?_
    clear hR; intro w hR
    go_upto_if 20 with fail
    refine wp_cond_at (nm := true) rfl HP.out (fun _ => ?_) (fun h => absurd h (by decide))
    go_upto_region 7 with (first
    | (go_at_call 43; refine (ansR_ok (takeE_any (s := ⟨t :: u :: r, d, m, i⟩) hS1 hR (by (focus (repeat (first | apply Del.head | apply Del.tail))))) (take_cons _ _ _ _ _)).mono ?_; rintro e w' ⟨rfl, v2, hS2, hO⟩; clear hR; have hR := hO; clear hO))
    go_wp2_with (first
    | (go_at_call 43; refine (ansR_ok (takeE_any (s := ⟨u :: r, d, m, i⟩) hS2 hR (by (focus (repeat (first | apply Del.head | apply Del.tail))))) (take_cons _ _ _ _ _)).mono ?_; rintro e w' ⟨rfl, v3, hS3, hO⟩; clear hR; have hR := hO; clear hO)
    | (go_at_call 56; refine (HI.out _).mono ?_; rintro e w' ⟨rfl, hb⟩; replace hR := hR.grow hb; clear hb)
    | (go_at_call 30; refine (needE_yes _).mono ?_; rintro e w' ⟨rfl, rfl⟩)
    | ((with_reducible apply wpList_funcA); exact rfl; exact rfl; exact rfl; simp only [cS, cZ])
    | (go_at_call 54; refine (ansR_ok (HD.out ⟨r, d, m, i⟩ _ _ _ _ (by rw [HM.out]; trivial) hS3 hR (by (focus (repeat (first | apply Del.head | apply Del.tail)))) (fun _ h => nomatch h)) HM.out).mono ?_; rintro e w' ⟨rfl, v4, hS4, hO⟩; clear hR; have hR := hO; clear hO)
    | (go_at_call 55; refine (pointE_any ht _).mono ?_; rintro e w' ⟨rfl, rfl⟩)
    | ((with_reducible apply wpList_put1 hR tIntV); exact rfl; exact rfl; exact rfl; (focus (repeat (first | apply List.Mem.head | apply List.Mem.tail | apply List.mem_append_right))); exact put_pki _ _; (simp [encPt]); exact rfl; (focus (repeat (first | apply Upd.head | apply Upd.tail))); clear hR; intro w hR)
    | ((with_reducible apply wpList_box hR); exact rfl; exact rfl; clear hR; intro g w hR; simp only [cS, cZ])
    | ((with_reducible apply wpList_make hR zPart); exact rfl; clear hR; intro g w hR; simp only [cS, cZ])
    | ((with_reducible apply wpList_make hR zTok); exact rfl; clear hR; intro g w hR; simp only [cS, cZ])
    | ((with_reducible apply q_ls hR); exact rfl; ((with_reducible first | apply t_addr fPart6 | apply t_addr fPart7 | apply t_addr (fTok _ (by decide)) | apply t_one tIntV | apply t_one tStrE | apply t_part tPart | apply t_part tTok) <;> (first | (focus (repeat (first | (apply EvC.gv; exact rfl; (with_reducible first | exact Imp.refl _ | (apply Imp.left; exact Imp.refl _) | (apply Imp.right; exact Imp.refl _) | (apply Imp.left; apply Imp.left; exact Imp.refl _))) | (apply EvC.now; exact rfl) | (with_reducible first | apply EvAll.cons | exact EvAll.nil))); done) | exact rfl | (first | exact ext_part _ | exact ext_tok _) | (focus (repeat (first | apply List.Mem.head | apply List.Mem.tail | apply List.mem_append_right))))); (simp only [cS, cZ]; exact rfl); clear hR; intro w hR)
    | ((with_reducible apply wpList_put hR tPart); exact rfl; exact rfl; exact rfl; (focus (repeat (first | apply List.Mem.head | apply List.Mem.tail | apply List.mem_append_right))); exact put_part _ _; exact rfl; exact Nat.le_refl 14; exact one_part _; (focus (repeat (first | apply Upd.head | apply Upd.tail))); clear hR; intro w hR)
    | ((with_reducible apply wpList_put hR tTok); exact rfl; exact rfl; exact rfl; (focus (repeat (first | apply List.Mem.head | apply List.Mem.tail | apply List.mem_append_right))); exact put_tok _ _; exact rfl; exact Nat.le_refl 4; exact one_tok _; (focus (repeat (first | apply Upd.head | apply Upd.tail))); clear hR; intro w hR))
    (try simp only [Exit.inBlock, Exit.then])
    exact post_row hR rfl (by rfl) (by (focus (repeat (first | apply List.Mem.head | apply List.Mem.tail | apply List.mem_append_right)))) Tryd.underlying69 rfl iPart (by rfl) (by rfl) ⟨rfl, _, hS4, (hR.lead (by (focus (repeat (first | apply Del.head | apply Del.tail))))).drop (List.Sublist.cons_cons _ (by (focus (repeat (with_reducible first | exact List.Sublist.slnil | exact List.nil_sublist _ | exact List.Sublist.refl _ | exact List.sublist_append_right _ _ | apply List.Sublist.cons_cons | apply List.Sublist.cons | apply sub_right)))))⟩
  · have HM := Lib.hid hm
    refine badR_ans ?_ rfl
    clear hm hgot
    go_enter Tryd.func40, Tryd.ntmps40
    go_upto_if 8 with (first
      | ((with_reducible apply wpList_box hR); exact rfl; exact rfl; clear hR; intro g w hR; simp only [cS, cZ])
      | ((with_reducible apply wpList_make hR zPart); exact rfl; clear hR; intro g w hR; simp only [cS, cZ])
      | ((with_reducible apply wpList_make hR zTok); exact rfl; clear hR; intro g w hR; simp only [cS, cZ])
      | ((with_reducible apply q_ls hR); exact rfl; ((with_reducible first | apply t_addr fPart6 | apply t_addr fPart7 | apply t_addr (fTok _ (by decide)) | apply t_one tIntV | apply t_one tStrE | apply t_part tPart | apply t_part tTok) <;> (first | (focus (repeat (first | (apply EvC.gv; exact rfl; (with_reducible first | exact Imp.refl _ | (apply Imp.left; exact Imp.refl _) | (apply Imp.right; exact Imp.refl _) | (apply Imp.left; apply Imp.left; exact Imp.refl _))) | (apply EvC.now; exact rfl) | (with_reducible first | apply EvAll.cons | exact EvAll.nil))); done) | exact rfl | (first | exact ext_part _ | exact ext_tok _) | (focus (repeat (first | apply List.Mem.head | apply List.Mem.tail | apply List.mem_append_right))))); (simp only [cS, cZ]; exact rfl); clear hR; intro w hR)
      | (go_at_call 42; refine (nextE_any (hR.get (by (focus (repeat (first | apply List.Mem.head | apply List.Mem.tail | apply List.mem_append_right))))) (hS1.own hR)).mono ?_; rintro e w' ⟨rfl, hb⟩; replace hR := hR.grow hb; clear hb)
      | ((with_reducible apply wpList_put hR tPart); exact rfl; exact rfl; exact rfl; (focus (repeat (first | apply List.Mem.head | apply List.Mem.tail | apply List.mem_append_right))); exact put_part _ _; exact rfl; exact Nat.le_refl 14; exact one_part _; (focus (repeat (first | apply Upd.head | apply Upd.tail))); clear hR; intro w hR)
      | ((with_reducible apply wpList_put hR tTok); exact rfl; exact rfl; exact rfl; (focus (repeat (first | apply List.Mem.head | apply List.Mem.tail | apply List.mem_append_right))); exact put_tok _ _; exact rfl; exact Nat.le_refl 4; exact one_tok _; (focus (repeat (first | apply Upd.head | apply Upd.tail))); clear hR; intro w hR)
      | (go_at_call 52; refine (HL.out _).mono ?_; rintro e w' ⟨rfl, hb⟩; replace hR := hR.grow hb; clear hb))
    refine wp_cond_at (nm := false) rfl rfl (fun h => absurd h (by decide)) (fun _ => ?_)
    go_upto_region 5 with fail
    refine wp_region_tame hR [0, 1, 2, 3, 4, 5, 6, 7, 8, 9] rfl ?_
    repeat (refine wpT_step rfl ?_; first
    | ((first | (with_reducible apply q_pl) | ((with_reducible apply q_gd); (first | (apply GdBy.gt; exact rfl; exact rfl) | (apply GdBy.gf; exact rfl; exact rfl) | (apply GdBy.t; exact rfl; exact rfl) | (apply GdBy.f; exact rfl; exact rfl)))); (first | ((with_reducible first | apply t_move | apply t_assign | apply t_and | apply t_or | apply t_cmp | apply t_not | apply t_addr fPart6 | apply t_addr fPart7 | apply t_addr (fTok _ (by decide)) | apply t_one tIntV | apply t_one tStrE | apply t_part tPart | apply t_part tTok) <;> (first | (focus (repeat (first | (apply EvC.gv; exact rfl; (with_reducible first | exact Imp.refl _ | (apply Imp.left; exact Imp.refl _) | (apply Imp.right; exact Imp.refl _) | (apply Imp.left; apply Imp.left; exact Imp.refl _))) | (apply EvC.now; exact rfl) | (with_reducible first | apply EvAll.cons | exact EvAll.nil))); done) | exact rfl | (first | exact ext_part _ | exact ext_tok _) | (focus (repeat (first | apply List.Mem.head | apply List.Mem.tail | apply List.mem_append_right)))))); (simp only [cS, cZ]; exact rfl))
    | ((first | (with_reducible apply q_pl) | ((with_reducible apply q_gd); (first | (apply GdBy.gt; exact rfl; exact rfl) | (apply GdBy.gf; exact rfl; exact rfl) | (apply GdBy.t; exact rfl; exact rfl) | (apply GdBy.f; exact rfl; exact rfl)))); (with_reducible apply t_call Tryd.call55); (first | (focus (repeat (first | (apply EvC.gv; exact rfl; (with_reducible first | exact Imp.refl _ | (apply Imp.left; exact Imp.refl _) | (apply Imp.right; exact Imp.refl _) | (apply Imp.left; apply Imp.left; exact Imp.refl _))) | (apply EvC.now; exact rfl) | (with_reducible first | apply EvAll.cons | exact EvAll.nil))); done) | exact rfl | (first | exact ext_part _ | exact ext_tok _) | (focus (repeat (first | apply List.Mem.head | apply List.Mem.tail | apply List.mem_append_right)))); (intro hcc w hC; exact tame_same' (pointE_any ht _) hC); (simp only [cS, cZ]; exact rfl))
    | ((with_reducible apply q_gd); (first | (apply GdBy.gt; exact rfl; exact rfl) | (apply GdBy.gf; exact rfl; exact rfl) | (apply GdBy.t; exact rfl; exact rfl) | (apply GdBy.f; exact rfl; exact rfl)); ((with_reducible apply t_num) <;> (first | (focus (repeat (first | (apply EvC.gv; exact rfl; (with_reducible first | exact Imp.refl _ | (apply Imp.left; exact Imp.refl _) | (apply Imp.right; exact Imp.refl _) | (apply Imp.left; apply Imp.left; exact Imp.refl _))) | (apply EvC.now; exact rfl) | (with_reducible first | apply EvAll.cons | exact EvAll.nil))); done) | exact rfl | (first | exact ext_part _ | exact ext_tok _) | (focus (repeat (first | apply List.Mem.head | apply List.Mem.tail | apply List.mem_append_right))))); (simp only [cS, cZ]; exact rfl))
    | ((with_reducible apply wpT1_gpure); (first | (apply GdBy.gt; exact rfl; exact rfl) | (apply GdBy.gf; exact rfl; exact rfl) | (apply GdBy.t; exact rfl; exact rfl) | (apply GdBy.f; exact rfl; exact rfl)); intro K hK; go_simp; refine hK _ ?_; clear hK K; simp only [cS, cZ])
    | ((with_reducible apply wpT1_pure); exact rfl; intro K hK; go_simp; refine hK _ ?_; clear hK K; simp only [cS, cZ]))
    refine wpT_nil ?_
    clear hR; intro w hR
    go_upto_if 20 with fail
    refine wp_cond_at (nm := true) rfl HP.out (fun _ => ?_) (fun h => absurd h (by decide))
    go_upto_region 7 with (first
    | (go_at_call 43; refine (ansR_ok (takeE_any (s := ⟨t :: u :: r, d, m, i⟩) hS1 hR (by (focus (repeat (first | apply Del.head | apply Del.tail))))) (take_cons _ _ _ _ _)).mono ?_; rintro e w' ⟨rfl, v2, hS2, hO⟩; clear hR; have hR := hO; clear hO))
    go_wp2_with (first
    | (go_at_call 43; refine (ansR_ok (takeE_any (s := ⟨u :: r, d, m, i⟩) hS2 hR (by (focus (repeat (first | apply Del.head | apply Del.tail))))) (take_cons _ _ _ _ _)).mono ?_; rintro e w' ⟨rfl, v3, hS3, hO⟩; clear hR; have hR := hO; clear hO)
    | (go_at_call 56; refine (HI.out _).mono ?_; rintro e w' ⟨rfl, hb⟩; replace hR := hR.grow hb; clear hb)
    | (go_at_call 30; refine (needE_yes _).mono ?_; rintro e w' ⟨rfl, rfl⟩)
    | ((with_reducible apply wpList_funcA); exact rfl; exact rfl; exact rfl; simp only [cS, cZ])
    | (go_at_call 54; refine (ansR_bad (HD.out ⟨r, d, m, i⟩ _ _ _ _ (by rw [HM.out]; trivial) hS3 hR (by (focus (repeat (first | apply Del.head | apply Del.tail)))) (fun _ h => nomatch h)) HM.out).mono ?_; rintro e w' ⟨rfl, hO⟩; clear hR; have hR := hO; clear hO))
    exact ⟨rfl, rfl, hR.drop (by (focus (repeat (with_reducible first | exact List.Sublist.slnil | exact List.nil_sublist _ | exact List.Sublist.refl _ | exact List.sublist_append_right _ _ | apply List.Sublist.cons_cons | apply List.Sublist.cons | apply sub_right))))⟩
  · exfalso; rw [hm] at hgot; exact hgot
/-! ### A segment register, and a colon -/
theorem seg_ways {s : St} (h : segB s = true) : ∃ t u r, s.l = t :: u :: r ∧ 16 ≤ regIx t.s ∧ isZ u 4 sCOLON = true := by
  rw [segB_eq] at h
  rcases hl : s.l with _ | ⟨t, _ | ⟨u, r⟩⟩
  · rw [show nextZ s = noTok by unfold nextZ; rw [hl]; rfl] at h
    rw [show (noTok.k == 1) = false from rfl, Bool.false_and, Bool.false_and] at h
    exact nomatch h
  · rw [hl, show ([t].getD 1 noTok) = noTok from rfl, show isZ noTok 4 sCOLON = false by decide, Bool.and_false] at h
    exact nomatch h
  · rw [show nextZ s = t by unfold nextZ; rw [hl]; rfl, hl, show ((t :: u :: r).getD 1 noTok) = u from rfl] at h
    simp only [Bool.and_eq_true, decide_eq_true_eq] at h
    exact ⟨t, u, r, rfl, h.1.2, h.2⟩
set_option maxHeartbeats 8000000 in
theorem segA_any {w0 : World} (hT : Tabs w0) {gr : Nat} {tb : TabZ} {ah : St → Rs PartZ} (hD : RdOk w0 gr tb [] 54 #[.pointer (some ⟨gr, 0, none⟩), .func (.func 40) #[.pointer (some ⟨gr, 0, none⟩)] #[]] (deepM ah)) {t u : TokZ} {r : List TokZ} {d m i : Int} (hl : leadsZ t = false) (hp : (decide (t.k = 1) && !decide (pointedZ t.s = 0)) = false) (hsg : segB ⟨t :: u :: r, d, m, i⟩ = true) (hu : isZ u 4 sCOLON = true)
    {v : Value} {w : World} {L R : List RowT} (hgot : (overR (regIx t.s - 15) (deepM ah ⟨r, d, m, i⟩)).got) (hS1 : Toks w0 v (t :: u :: r)) (hO : Own w0 w L) (hd : Del (gr, rdr v tb ⟨t :: u :: r, d, m, i⟩, 66) L R) :
    Calls Tryd.prog 40 #[.pointer (some ⟨gr, 0, none⟩)] w (AnsR w0 gr tb partV R (overR (regIx t.s - 15) (deepM ah ⟨r, d, m, i⟩))) := by
  have hR := hO.lead hd
  have HD := Lib.hid hD
  have ht := hS1.ok t (.head _)
  have hle := fun w0 => leadsE_any (t := t) ht w0
  rw [hl] at hle
  have HL := Lib.hid hle
  have HP := Lib.hid hp
  have HG := Lib.hid (fun (w' : World) (l : List RowT) (hO : Own w0 w' l) (hm : (gr, rdr v tb ⟨t :: u :: r, d, m, i⟩, 66) ∈ l) => segE_any (hT.own hO) (hO.get hm) (hS1.own hO))
  rw [hsg] at HG
  have HU := Lib.hid (show mustM () ⟨u :: r, d, m, i⟩ sCOLON = .ok () ⟨r, d, m, i⟩ by rw [must_cons, hu]; rfl)
  have HRg := Lib.hid (fun (w' : World) (l : List RowT) (hO : Own w0 w' l) => registerE_any (hT.own hO) ht)
  have hbd := regIx_bd t.s
  have HN := Lib.hid (show IntKind.i64.wrap (regIx t.s - 16) = regIx t.s - 16 from IntWalk.i64_in _ (by omega))
  have HN2 := Lib.hid (show IntKind.i64.wrap (regIx t.s - 16 + 1) = regIx t.s - 15 by rw [show regIx t.s - 16 + 1 = regIx t.s - 15 by omega]; exact IntWalk.i64_in _ (by omega))
  clear hO hd hD hle hl hp hsg hu hbd
  generalize regIx t.s = n at *
  rcases hm : deepM ah ⟨r, d, m, i⟩ with ⟨p, s2⟩ | e | _
  · have HM := Lib.hid hm
    refine okR_ans ?_ (show overR (n - 15) (Rs.ok p s2) = .ok (setOv p (n - 15)) s2 from rfl)
    clear hm hgot
    go_enter Tryd.func40, Tryd.ntmps40
    go_upto_if 8 with (first
      | ((with_reducible apply wpList_box hR); exact rfl; exact rfl; clear hR; intro g w hR; simp only [cS, cZ])
      | ((with_reducible apply wpList_make hR zPart); exact rfl; clear hR; intro g w hR; simp only [cS, cZ])
      | ((with_reducible apply wpList_make hR zTok); exact rfl; clear hR; intro g w hR; simp only [cS, cZ])
      | ((with_reducible apply q_ls hR); exact rfl; ((with_reducible first | apply t_addr fPart6 | apply t_addr fPart7 | apply t_addr (fTok _ (by decide)) | apply t_one tIntV | apply t_one tStrE | apply t_part tPart | apply t_part tTok) <;> (first | (focus (repeat (first | (apply EvC.gv; exact rfl; (with_reducible first | exact Imp.refl _ | (apply Imp.left; exact Imp.refl _) | (apply Imp.right; exact Imp.refl _) | (apply Imp.left; apply Imp.left; exact Imp.refl _))) | (apply EvC.now; exact rfl) | (with_reducible first | apply EvAll.cons | exact EvAll.nil))); done) | exact rfl | (first | exact ext_part _ | exact ext_tok _) | (focus (repeat (first | apply List.Mem.head | apply List.Mem.tail | apply List.mem_append_right))))); (simp only [cS, cZ]; exact rfl); clear hR; intro w hR)
      | (go_at_call 42; refine (nextE_any (hR.get (by (focus (repeat (first | apply List.Mem.head | apply List.Mem.tail | apply List.mem_append_right))))) (hS1.own hR)).mono ?_; rintro e w' ⟨rfl, hb⟩; replace hR := hR.grow hb; clear hb)
      | ((with_reducible apply wpList_put hR tPart); exact rfl; exact rfl; exact rfl; (focus (repeat (first | apply List.Mem.head | apply List.Mem.tail | apply List.mem_append_right))); exact put_part _ _; exact rfl; exact Nat.le_refl 14; exact one_part _; (focus (repeat (first | apply Upd.head | apply Upd.tail))); clear hR; intro w hR)
      | ((with_reducible apply wpList_put hR tTok); exact rfl; exact rfl; exact rfl; (focus (repeat (first | apply List.Mem.head | apply List.Mem.tail | apply List.mem_append_right))); exact put_tok _ _; exact rfl; exact Nat.le_refl 4; exact one_tok _; (focus (repeat (first | apply Upd.head | apply Upd.tail))); clear hR; intro w hR)
      | (go_at_call 52; refine (HL.out _).mono ?_; rintro e w' ⟨rfl, hb⟩; replace hR := hR.grow hb; clear hb))
    refine wp_cond_at (nm := false) rfl rfl (fun h => absurd h (by decide)) (fun _ => ?_)
    go_upto_region 5 with fail
    refine wp_region_tame hR [0, 1, 2, 3, 4, 5, 6, 7, 8, 9] rfl ?_
    repeat (refine wpT_step rfl ?_; first
    | ((first | (with_reducible apply q_pl) | ((with_reducible apply q_gd); (first | (apply GdBy.gt; exact rfl; exact rfl) | (apply GdBy.gf; exact rfl; exact rfl) | (apply GdBy.t; exact rfl; exact rfl) | (apply GdBy.f; exact rfl; exact rfl)))); (first | ((with_reducible first | apply t_move | apply t_assign | apply t_and | apply t_or | apply t_cmp | apply t_not | apply t_addr fPart6 | apply t_addr fPart7 | apply t_addr (fTok _ (by decide)) | apply t_one tIntV | apply t_one tStrE | apply t_part tPart | apply t_part tTok) <;> (first | (focus (repeat (first | (apply EvC.gv; exact rfl; (with_reducible first | exact Imp.refl _ | (apply Imp.left; exact Imp.refl _) | (apply Imp.right; exact Imp.refl _) | (apply Imp.left; apply Imp.left; exact Imp.refl _))) | (apply EvC.now; exact rfl) | (with_reducible first | apply EvAll.cons | exact EvAll.nil))); done) | exact rfl | (first | exact ext_part _ | exact ext_tok _) | (focus (repeat (first | apply List.Mem.head | apply List.Mem.tail | apply List.mem_append_right)))))); (simp only [cS, cZ]; exact rfl))
    | ((first | (with_reducible apply q_pl) | ((with_reducible apply q_gd); (first | (apply GdBy.gt; exact rfl; exact rfl) | (apply GdBy.gf; exact rfl; exact rfl) | (apply GdBy.t; exact rfl; exact rfl) | (apply GdBy.f; exact rfl; exact rfl)))); (with_reducible apply t_call Tryd.call55); (first | (focus (repeat (first | (apply EvC.gv; exact rfl; (with_reducible first | exact Imp.refl _ | (apply Imp.left; exact Imp.refl _) | (apply Imp.right; exact Imp.refl _) | (apply Imp.left; apply Imp.left; exact Imp.refl _))) | (apply EvC.now; exact rfl) | (with_reducible first | apply EvAll.cons | exact EvAll.nil))); done) | exact rfl | (first | exact ext_part _ | exact ext_tok _) | (focus (repeat (first | apply List.Mem.head | apply List.Mem.tail | apply List.mem_append_right)))); (intro hcc w hC; exact tame_same' (pointE_any ht _) hC); (simp only [cS, cZ]; exact rfl))
    | ((with_reducible apply q_gd); (first | (apply GdBy.gt; exact rfl; exact rfl) | (apply GdBy.gf; exact rfl; exact rfl) | (apply GdBy.t; exact rfl; exact rfl) | (apply GdBy.f; exact rfl; exact rfl)); ((with_reducible apply t_num) <;> (first | (focus (repeat (first | (apply EvC.gv; exact rfl; (with_reducible first | exact Imp.refl _ | (apply Imp.left; exact Imp.refl _) | (apply Imp.right; exact Imp.refl _) | (apply Imp.left; apply Imp.left; exact Imp.refl _))) | (apply EvC.now; exact rfl) | (with_reducible first | apply EvAll.cons | exact EvAll.nil))); done) | exact rfl | (first | exact ext_part _ | exact ext_tok _) | (focus (repeat (first | apply List.Mem.head | apply List.Mem.tail | apply List.mem_append_right))))); (simp only [cS, cZ]; exact rfl))
    | ((with_reducible apply wpT1_gpure); (first | (apply GdBy.gt; exact rfl; exact rfl) | (apply GdBy.gf; exact rfl; exact rfl) | (apply GdBy.t; exact rfl; exact rfl) | (apply GdBy.f; exact rfl; exact rfl)); intro K hK; go_simp; refine hK _ ?_; clear hK K; simp only [cS, cZ])
    | ((with_reducible apply wpT1_pure); exact rfl; intro K hK; go_simp; refine hK _ ?_; clear hK K; simp only [cS, cZ]))
    refine wpT_nil ?_
    clear hR; intro w hR
    go_upto_if 20 with fail
    refine wp_cond_at (nm := false) rfl HP.out (fun h => absurd h (by decide)) (fun _ => ?_)
    go_upto_if 45 with (first
    | (go_at_call 57; refine (HG.out _ _ hR (by (focus (repeat (first | apply List.Mem.head | apply List.Mem.tail | apply List.mem_append_right))))).mono ?_; rintro e w' ⟨rfl, hb⟩; replace hR := hR.grow hb; clear hb))
    refine wp_cond_at (nm := true) rfl rfl (fun _ => ?_) (fun h => absurd h (by decide))
    go_wp2_with (first
    | (go_at_call 43; refine (ansR_ok (takeE_any (s := ⟨t :: u :: r, d, m, i⟩) hS1 hR (by (focus (repeat (first | apply Del.head | apply Del.tail))))) (take_cons _ _ _ _ _)).mono ?_; rintro e w' ⟨rfl, v2, hS2, hO⟩; clear hR; have hR := hO; clear hO)
    | (go_at_call 58; refine (ansR_ok (mustE_any (s := ⟨u :: r, d, m, i⟩) hS2 hR (by (focus (repeat (first | apply Del.head | apply Del.tail)))) oksCOLON) HU.out).mono ?_; rintro e w' ⟨rfl, v3, hS3, hO⟩; clear hR; have hR := hO; clear hO)
    | ((with_reducible apply wpList_funcA); exact rfl; exact rfl; exact rfl; simp only [cS, cZ])
    | (go_at_call 54; refine (ansR_ok (HD.out ⟨r, d, m, i⟩ _ _ _ _ (by rw [HM.out]; trivial) hS3 hR (by (focus (repeat (first | apply Del.head | apply Del.tail)))) (fun _ h => nomatch h)) HM.out).mono ?_; rintro e w' ⟨rfl, v4, hS4, hO⟩; clear hR; have hR := hO; clear hO)
    | (go_at_call 13; refine (HRg.out _ _ hR).mono ?_; rintro e w' ⟨rfl, hb⟩; replace hR := hR.grow hb; clear hb)
    | ((with_reducible apply q_ls hR); exact rfl; (with_reducible apply t_numE (op := .sub)); (apply EvC.now; exact rfl); (apply EvC.now; exact rfl); exact rfl; exact HN.out; (simp only [cS, cZ]; exact rfl); clear hR; intro w hR)
    | ((with_reducible apply q_ls hR); exact rfl; (with_reducible apply t_numE (op := .add)); (apply EvC.now; exact rfl); (apply EvC.now; exact rfl); exact rfl; exact HN2.out; (simp only [cS, cZ]; exact rfl); clear hR; intro w hR)
    | ((with_reducible apply wpList_put1 hR tIntV); exact rfl; exact rfl; exact rfl; (focus (repeat (first | apply List.Mem.head | apply List.Mem.tail | apply List.mem_append_right))); exact put_pov _ _; (simp [encPt]); exact rfl; (focus (repeat (first | apply Upd.head | apply Upd.tail))); clear hR; intro w hR)
    | ((with_reducible apply wpList_box hR); exact rfl; exact rfl; clear hR; intro g w hR; simp only [cS, cZ])
    | ((with_reducible apply wpList_make hR zPart); exact rfl; clear hR; intro g w hR; simp only [cS, cZ])
    | ((with_reducible apply wpList_make hR zTok); exact rfl; clear hR; intro g w hR; simp only [cS, cZ])
    | ((with_reducible apply q_ls hR); exact rfl; ((with_reducible first | apply t_addr fPart6 | apply t_addr fPart7 | apply t_addr (fTok _ (by decide)) | apply t_one tIntV | apply t_one tStrE | apply t_part tPart | apply t_part tTok) <;> (first | (focus (repeat (first | (apply EvC.gv; exact rfl; (with_reducible first | exact Imp.refl _ | (apply Imp.left; exact Imp.refl _) | (apply Imp.right; exact Imp.refl _) | (apply Imp.left; apply Imp.left; exact Imp.refl _))) | (apply EvC.now; exact rfl) | (with_reducible first | apply EvAll.cons | exact EvAll.nil))); done) | exact rfl | (first | exact ext_part _ | exact ext_tok _) | (focus (repeat (first | apply List.Mem.head | apply List.Mem.tail | apply List.mem_append_right))))); (simp only [cS, cZ]; exact rfl); clear hR; intro w hR)
    | ((with_reducible apply wpList_put hR tPart); exact rfl; exact rfl; exact rfl; (focus (repeat (first | apply List.Mem.head | apply List.Mem.tail | apply List.mem_append_right))); exact put_part _ _; exact rfl; exact Nat.le_refl 14; exact one_part _; (focus (repeat (first | apply Upd.head | apply Upd.tail))); clear hR; intro w hR)
    | ((with_reducible apply wpList_put hR tTok); exact rfl; exact rfl; exact rfl; (focus (repeat (first | apply List.Mem.head | apply List.Mem.tail | apply List.mem_append_right))); exact put_tok _ _; exact rfl; exact Nat.le_refl 4; exact one_tok _; (focus (repeat (first | apply Upd.head | apply Upd.tail))); clear hR; intro w hR))
    (try simp only [Exit.inBlock, Exit.then])
    exact post_row hR rfl (by rfl) (by (focus (repeat (first | apply List.Mem.head | apply List.Mem.tail | apply List.mem_append_right)))) Tryd.underlying69 rfl iPart (by rfl) (by rfl) ⟨rfl, _, hS4, (hR.lead (by (focus (repeat (first | apply Del.head | apply Del.tail))))).drop (List.Sublist.cons_cons _ (by (focus (repeat (with_reducible first | exact List.Sublist.slnil | exact List.nil_sublist _ | exact List.Sublist.refl _ | exact List.sublist_append_right _ _ | apply List.Sublist.cons_cons | apply List.Sublist.cons | apply sub_right)))))⟩
  · have HM := Lib.hid hm
    refine badR_ans ?_ rfl
    clear hm hgot
    go_enter Tryd.func40, Tryd.ntmps40
    go_upto_if 8 with (first
      | ((with_reducible apply wpList_box hR); exact rfl; exact rfl; clear hR; intro g w hR; simp only [cS, cZ])
      | ((with_reducible apply wpList_make hR zPart); exact rfl; clear hR; intro g w hR; simp only [cS, cZ])
      | ((with_reducible apply wpList_make hR zTok); exact rfl; clear hR; intro g w hR; simp only [cS, cZ])
      | ((with_reducible apply q_ls hR); exact rfl; ((with_reducible first | apply t_addr fPart6 | apply t_addr fPart7 | apply t_addr (fTok _ (by decide)) | apply t_one tIntV | apply t_one tStrE | apply t_part tPart | apply t_part tTok) <;> (first | (focus (repeat (first | (apply EvC.gv; exact rfl; (with_reducible first | exact Imp.refl _ | (apply Imp.left; exact Imp.refl _) | (apply Imp.right; exact Imp.refl _) | (apply Imp.left; apply Imp.left; exact Imp.refl _))) | (apply EvC.now; exact rfl) | (with_reducible first | apply EvAll.cons | exact EvAll.nil))); done) | exact rfl | (first | exact ext_part _ | exact ext_tok _) | (focus (repeat (first | apply List.Mem.head | apply List.Mem.tail | apply List.mem_append_right))))); (simp only [cS, cZ]; exact rfl); clear hR; intro w hR)
      | (go_at_call 42; refine (nextE_any (hR.get (by (focus (repeat (first | apply List.Mem.head | apply List.Mem.tail | apply List.mem_append_right))))) (hS1.own hR)).mono ?_; rintro e w' ⟨rfl, hb⟩; replace hR := hR.grow hb; clear hb)
      | ((with_reducible apply wpList_put hR tPart); exact rfl; exact rfl; exact rfl; (focus (repeat (first | apply List.Mem.head | apply List.Mem.tail | apply List.mem_append_right))); exact put_part _ _; exact rfl; exact Nat.le_refl 14; exact one_part _; (focus (repeat (first | apply Upd.head | apply Upd.tail))); clear hR; intro w hR)
      | ((with_reducible apply wpList_put hR tTok); exact rfl; exact rfl; exact rfl; (focus (repeat (first | apply List.Mem.head | apply List.Mem.tail | apply List.mem_append_right))); exact put_tok _ _; exact rfl; exact Nat.le_refl 4; exact one_tok _; (focus (repeat (first | apply Upd.head | apply Upd.tail))); clear hR; intro w hR)
      | (go_at_call 52; refine (HL.out _).mono ?_; rintro e w' ⟨rfl, hb⟩; replace hR := hR.grow hb; clear hb))
    refine wp_cond_at (nm := false) rfl rfl (fun h => absurd h (by decide)) (fun _ => ?_)
    go_upto_region 5 with fail
    refine wp_region_tame hR [0, 1, 2, 3, 4, 5, 6, 7, 8, 9] rfl ?_
    repeat (refine wpT_step rfl ?_; first
    | ((first | (with_reducible apply q_pl) | ((with_reducible apply q_gd); (first | (apply GdBy.gt; exact rfl; exact rfl) | (apply GdBy.gf; exact rfl; exact rfl) | (apply GdBy.t; exact rfl; exact rfl) | (apply GdBy.f; exact rfl; exact rfl)))); (first | ((with_reducible first | apply t_move | apply t_assign | apply t_and | apply t_or | apply t_cmp | apply t_not | apply t_addr fPart6 | apply t_addr fPart7 | apply t_addr (fTok _ (by decide)) | apply t_one tIntV | apply t_one tStrE | apply t_part tPart | apply t_part tTok) <;> (first | (focus (repeat (first | (apply EvC.gv; exact rfl; (with_reducible first | exact Imp.refl _ | (apply Imp.left; exact Imp.refl _) | (apply Imp.right; exact Imp.refl _) | (apply Imp.left; apply Imp.left; exact Imp.refl _))) | (apply EvC.now; exact rfl) | (with_reducible first | apply EvAll.cons | exact EvAll.nil))); done) | exact rfl | (first | exact ext_part _ | exact ext_tok _) | (focus (repeat (first | apply List.Mem.head | apply List.Mem.tail | apply List.mem_append_right)))))); (simp only [cS, cZ]; exact rfl))
    | ((first | (with_reducible apply q_pl) | ((with_reducible apply q_gd); (first | (apply GdBy.gt; exact rfl; exact rfl) | (apply GdBy.gf; exact rfl; exact rfl) | (apply GdBy.t; exact rfl; exact rfl) | (apply GdBy.f; exact rfl; exact rfl)))); (with_reducible apply t_call Tryd.call55); (first | (focus (repeat (first | (apply EvC.gv; exact rfl; (with_reducible first | exact Imp.refl _ | (apply Imp.left; exact Imp.refl _) | (apply Imp.right; exact Imp.refl _) | (apply Imp.left; apply Imp.left; exact Imp.refl _))) | (apply EvC.now; exact rfl) | (with_reducible first | apply EvAll.cons | exact EvAll.nil))); done) | exact rfl | (first | exact ext_part _ | exact ext_tok _) | (focus (repeat (first | apply List.Mem.head | apply List.Mem.tail | apply List.mem_append_right)))); (intro hcc w hC; exact tame_same' (pointE_any ht _) hC); (simp only [cS, cZ]; exact rfl))
    | ((with_reducible apply q_gd); (first | (apply GdBy.gt; exact rfl; exact rfl) | (apply GdBy.gf; exact rfl; exact rfl) | (apply GdBy.t; exact rfl; exact rfl) | (apply GdBy.f; exact rfl; exact rfl)); ((with_reducible apply t_num) <;> (first | (focus (repeat (first | (apply EvC.gv; exact rfl; (with_reducible first | exact Imp.refl _ | (apply Imp.left; exact Imp.refl _) | (apply Imp.right; exact Imp.refl _) | (apply Imp.left; apply Imp.left; exact Imp.refl _))) | (apply EvC.now; exact rfl) | (with_reducible first | apply EvAll.cons | exact EvAll.nil))); done) | exact rfl | (first | exact ext_part _ | exact ext_tok _) | (focus (repeat (first | apply List.Mem.head | apply List.Mem.tail | apply List.mem_append_right))))); (simp only [cS, cZ]; exact rfl))
    | ((with_reducible apply wpT1_gpure); (first | (apply GdBy.gt; exact rfl; exact rfl) | (apply GdBy.gf; exact rfl; exact rfl) | (apply GdBy.t; exact rfl; exact rfl) | (apply GdBy.f; exact rfl; exact rfl)); intro K hK; go_simp; refine hK _ ?_; clear hK K; simp only [cS, cZ])
    | ((with_reducible apply wpT1_pure); exact rfl; intro K hK; go_simp; refine hK _ ?_; clear hK K; simp only [cS, cZ]))
    refine wpT_nil ?_
    clear hR; intro w hR
    go_upto_if 20 with fail
    refine wp_cond_at (nm := false) rfl HP.out (fun h => absurd h (by decide)) (fun _ => ?_)
    go_upto_if 45 with (first
    | (go_at_call 57; refine (HG.out _ _ hR (by (focus (repeat (first | apply List.Mem.head | apply List.Mem.tail | apply List.mem_append_right))))).mono ?_; rintro e w' ⟨rfl, hb⟩; replace hR := hR.grow hb; clear hb))
    refine wp_cond_at (nm := true) rfl rfl (fun _ => ?_) (fun h => absurd h (by decide))
    go_wp2_with (first
    | (go_at_call 43; refine (ansR_ok (takeE_any (s := ⟨t :: u :: r, d, m, i⟩) hS1 hR (by (focus (repeat (first | apply Del.head | apply Del.tail))))) (take_cons _ _ _ _ _)).mono ?_; rintro e w' ⟨rfl, v2, hS2, hO⟩; clear hR; have hR := hO; clear hO)
    | (go_at_call 58; refine (ansR_ok (mustE_any (s := ⟨u :: r, d, m, i⟩) hS2 hR (by (focus (repeat (first | apply Del.head | apply Del.tail)))) oksCOLON) HU.out).mono ?_; rintro e w' ⟨rfl, v3, hS3, hO⟩; clear hR; have hR := hO; clear hO)
    | ((with_reducible apply wpList_funcA); exact rfl; exact rfl; exact rfl; simp only [cS, cZ])
    | (go_at_call 54; refine (ansR_bad (HD.out ⟨r, d, m, i⟩ _ _ _ _ (by rw [HM.out]; trivial) hS3 hR (by (focus (repeat (first | apply Del.head | apply Del.tail)))) (fun _ h => nomatch h)) HM.out).mono ?_; rintro e w' ⟨rfl, hO⟩; clear hR; have hR := hO; clear hO))
    exact ⟨rfl, rfl, hR.drop (by (focus (repeat (with_reducible first | exact List.Sublist.slnil | exact List.nil_sublist _ | exact List.Sublist.refl _ | exact List.sublist_append_right _ _ | apply List.Sublist.cons_cons | apply List.Sublist.cons | apply sub_right))))⟩
  · exfalso; rw [hm] at hgot; exact hgot
end Go.Proofs.YtckkgooabnlooaaDoor
