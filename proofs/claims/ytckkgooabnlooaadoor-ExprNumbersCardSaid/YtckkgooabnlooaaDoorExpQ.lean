









/- The contracts of package expr's ahead and of all that reads, by induction on how far it is followed; of whole. No statement of the seat is proved here. -/
import Derived.Test.YtckkgooabnlooaaDoorExpP
namespace Go.Proofs.YtckkgooabnlooaaDoor
open Go.ChangeShapes Go.WideShapes Go.ChangeAt Go.RowKit
set_option linter.unusedVariables false
set_option linter.unusedSimpArgs false
set_option maxRecDepth 100000

set_option maxHeartbeats 8000000 in
theorem plainA_any {w0 : World} (hT : Tabs w0) {gr : Nat} {tb : TabZ} {on : St → Rs PartZ} (hN : RdOk w0 gr tb [] 59 #[.pointer (some ⟨gr, 0, none⟩)] on) {s : St} (hl : leadsZ (nextZ s) = false) (hp : (decide ((nextZ s).k = 1) && !decide (pointedZ (nextZ s).s = 0)) = false) (hsg : segB s = false)
    {v : Value} {w : World} {L R : List RowT} (hgot : (on s).got) (hS1 : Toks w0 v s.l) (hO : Own w0 w L) (hd : Del (gr, rdr v tb s, 66) L R) :
    Calls Tryd.prog 40 #[.pointer (some ⟨gr, 0, none⟩)] w (AnsR w0 gr tb partV R (on s)) := by
  have hR := hO.lead hd
  have HN := Lib.hid hN
  have ht := next_ok hS1
  have hle := fun w0 => leadsE_any (t := nextZ s) ht w0
  rw [hl] at hle
  have HL := Lib.hid hle
  have HP := Lib.hid hp
  have HG := Lib.hid (fun (w' : World) (l : List RowT) (hO : Own w0 w' l) (hm : (gr, rdr v tb s, 66) ∈ l) => segE_any (hT.own hO) (hO.get hm) (hS1.own hO))
  rw [hsg] at HG
  clear hO hd hN hle hl hp hsg
  rcases hm : on s with ⟨p, s2⟩ | e | _
  · have HM := Lib.hid hm
    refine okR_ans ?_ rfl
    clear hm hgot
    go_enter Tryd.func40, Tryd.ntmps40
    go_upto_if 8 with (first
      | ((with_reducible apply wpList_box hR); exact rfl; exact rfl; clear hR; intro g w hR; simp only [cS, cZ])
      | ((with_reducible apply wpList_make hR zPart); exact rfl; clear hR; intro g w hR; simp only [cS, cZ])
      | ((with_reducible apply wpList_make hR zTok); exact rfl; clear hR; intro g w hR; simp only [cS, cZ])
      | ((with_reducible apply q_ls hR); exact rfl; ((with_reducible first | apply t_addr fPart6 | apply t_addr fPart7 | apply t_addr (fTok _ (by decide)) | apply t_one tIntV | apply t_one tStrE | apply t_part tPart | apply t_part tTok) <;> (first | (focus (repeat (first | (apply EvC.gv; exact rfl; (with_reducible first | exact Imp.refl _ | (apply Imp.left; exact Imp.refl _) | (apply Imp.right; exact Imp.refl _) | (apply Imp.left; apply Imp.left; exact Imp.refl _))) | (apply EvC.now; exact rfl) | (with_reducible first | apply EvAll.cons | exact EvAll.nil))); done) | exact rfl | (first | exact ext_part _ | exact ext_tok _) | (focus (repeat (first | apply List.Mem.head | apply List.Mem.tail | apply List.mem_append_right))))); (simp only [cS, cZ]; exact rfl); clear hR; intro w hR)
      | (go_at_call 42; refine (nextE_any (hR.get (by (focus (repeat (first | apply List.Mem.head | apply List.Mem.tail | apply List.mem_append_right))))) (hS1.own hR)).mono ?_; rintro e w' ⟨rfl, hb⟩; replace hR := hR.grow hb; clear hb)
      | ((with_reducible apply wpList_put hR tPart); exact rfl; exact rfl; exact rfl; (focus (repeat (first | apply List.Mem.head | apply List.Mem.tail | apply List.mem_append_right))); exact put_part _ _; exact rfl; exact Nat.le_refl 14; exact one_part _; (focus (repeat (first | apply Upd.head | apply Upd.tail))); clear hR; intro w hR)
      | ((with_reducible apply wpList_put hR tTok); exact rfl; exact rfl; exact rfl; (focus (repeat (first | apply List.Mem.head | apply List.Mem.tail | apply List.mem_append_right))); exact put_tok _ _; exact rfl; exact Nat.le_refl 4; exact one_tok _; (focus (repeat (first | apply Upd.head | apply Upd.tail))); clear hR; intro w hR)
      | (go_at_call 52; refine (HL.out _).mono ?_; rintro e w' ⟨rfl, hb⟩; replace hR := hR.grow hb; clear hb))
    refine wp_cond_at (nm := false) rfl rfl (fun h => absurd h (by decide)) (fun _ => ?_)
    go_upto_region 5 with fail
    refine wp_region_tame hR [0, 1, 2, 3, 4, 5, 6, 7, 8, 9] rfl ?_
    repeat (refine wpT_step rfl ?_; first
    | ((first | (with_reducible apply q_pl) | ((with_reducible apply q_gd); (first | (apply GdBy.gt; exact rfl; exact rfl) | (apply GdBy.gf; exact rfl; exact rfl) | (apply GdBy.t; exact rfl; exact rfl) | (apply GdBy.f; exact rfl; exact rfl)))); (first | ((with_reducible first | apply t_move | apply t_assign | apply t_and | apply t_or | apply t_cmp | apply t_not | apply t_addr fPart6 | apply t_addr fPart7 | apply t_addr (fTok _ (by decide)) | apply t_one tIntV | apply t_one tStrE | apply t_part tPart | apply t_part tTok) <;> (first | (focus (repeat (first | (apply EvC.gv; exact rfl; (with_reducible first | exact Imp.refl _ | (apply Imp.left; exact Imp.refl _) | (apply Imp.right; exact Imp.refl _) | (apply Imp.left; apply Imp.left; exact Imp.refl _))) | (apply EvC.now; exact rfl) | (with_reducible first | apply EvAll.cons | exact EvAll.nil))); done) | exact rfl | (first | exact ext_part _ | exact ext_tok _) | (focus (repeat (first | apply List.Mem.head | apply List.Mem.tail | apply List.mem_append_right)))))); (simp only [cS, cZ]; exact rfl))
    | ((first | (with_reducible apply q_pl) | ((with_reducible apply q_gd); (first | (apply GdBy.gt; exact rfl; exact rfl) | (apply GdBy.gf; exact rfl; exact rfl) | (apply GdBy.t; exact rfl; exact rfl) | (apply GdBy.f; exact rfl; exact rfl)))); (with_reducible apply t_call Tryd.call55); (first | (focus (repeat (first | (apply EvC.gv; exact rfl; (with_reducible first | exact Imp.refl _ | (apply Imp.left; exact Imp.refl _) | (apply Imp.right; exact Imp.refl _) | (apply Imp.left; apply Imp.left; exact Imp.refl _))) | (apply EvC.now; exact rfl) | (with_reducible first | apply EvAll.cons | exact EvAll.nil))); done) | exact rfl | (first | exact ext_part _ | exact ext_tok _) | (focus (repeat (first | apply List.Mem.head | apply List.Mem.tail | apply List.mem_append_right)))); (intro hcc w hC; exact tame_same' (pointE_any ht _) hC); (simp only [cS, cZ]; exact rfl))
    | ((with_reducible apply q_gd); (first | (apply GdBy.gt; exact rfl; exact rfl) | (apply GdBy.gf; exact rfl; exact rfl) | (apply GdBy.t; exact rfl; exact rfl) | (apply GdBy.f; exact rfl; exact rfl)); ((with_reducible apply t_num) <;> (first | (focus (repeat (first | (apply EvC.gv; exact rfl; (with_reducible first | exact Imp.refl _ | (apply Imp.left; exact Imp.refl _) | (apply Imp.right; exact Imp.refl _) | (apply Imp.left; apply Imp.left; exact Imp.refl _))) | (apply EvC.now; exact rfl) | (with_reducible first | apply EvAll.cons | exact EvAll.nil))); done) | exact rfl | (first | exact ext_part _ | exact ext_tok _) | (focus (repeat (first | apply List.Mem.head | apply List.Mem.tail | apply List.mem_append_right))))); (simp only [cS, cZ]; exact rfl))
    | ((with_reducible apply wpT1_gpure); (first | (apply GdBy.gt; exact rfl; exact rfl) | (apply GdBy.gf; exact rfl; exact rfl) | (apply GdBy.t; exact rfl; exact rfl) | (apply GdBy.f; exact rfl; exact rfl)); intro K hK; go_simp; refine hK _ ?_; clear hK K; simp only [cS, cZ])
    | ((with_reducible apply wpT1_pure); exact rfl; intro K hK; go_simp; refine hK _ ?_; clear hK K; simp only [cS, cZ]))
    refine wpT_nil ?_
    clear hR; intro w hR
    go_upto_if 20 with fail
    refine wp_cond_at (nm := false) rfl HP.out (fun h => absurd h (by decide)) (fun _ => ?_)
    go_upto_if 45 with (first
    | (go_at_call 57; refine (HG.out _ _ hR (by (focus (repeat (first | apply List.Mem.head | apply List.Mem.tail | apply List.mem_append_right))))).mono ?_; rintro e w' ⟨rfl, hb⟩; replace hR := hR.grow hb; clear hb))
    refine wp_cond_at (nm := false) rfl rfl (fun h => absurd h (by decide)) (fun _ => ?_)
    go_wp2_with (first
    | (go_at_call 59; refine (ansR_ok (HN.out s _ _ _ _ (by rw [HM.out]; trivial) hS1 hR (by (focus (repeat (first | apply Del.head | apply Del.tail)))) (fun _ h => nomatch h)) HM.out).mono ?_; rintro e w' ⟨rfl, v4, hS4, hO⟩; clear hR; have hR := hO; clear hO)
    | ((with_reducible apply wpList_put hR tPart); exact rfl; exact rfl; exact rfl; (focus (repeat (first | apply List.Mem.head | apply List.Mem.tail | apply List.mem_append_right))); exact put_part _ _; exact rfl; exact Nat.le_refl 14; exact one_part _; (focus (repeat (first | apply Upd.head | apply Upd.tail))); clear hR; intro w hR)
    | ((with_reducible apply wpList_put hR tTok); exact rfl; exact rfl; exact rfl; (focus (repeat (first | apply List.Mem.head | apply List.Mem.tail | apply List.mem_append_right))); exact put_tok _ _; exact rfl; exact Nat.le_refl 4; exact one_tok _; (focus (repeat (first | apply Upd.head | apply Upd.tail))); clear hR; intro w hR))
    (try simp only [Exit.inBlock, Exit.then])
    exact post_row hR rfl (by rfl) (by (focus (repeat (first | apply List.Mem.head | apply List.Mem.tail | apply List.mem_append_right)))) Tryd.underlying69 rfl iPart (by rfl) (by rfl) ⟨rfl, _, hS4, (hR.lead (by (focus (repeat (first | apply Del.head | apply Del.tail))))).drop (List.Sublist.cons_cons _ (by (focus (repeat (with_reducible first | exact List.Sublist.slnil | exact List.nil_sublist _ | exact List.Sublist.refl _ | exact List.sublist_append_right _ _ | apply List.Sublist.cons_cons | apply List.Sublist.cons | apply sub_right)))))⟩
  · have HM := Lib.hid hm
    refine badR_ans ?_ rfl
    clear hm hgot
    go_enter Tryd.func40, Tryd.ntmps40
    go_upto_if 8 with (first
      | ((with_reducible apply wpList_box hR); exact rfl; exact rfl; clear hR; intro g w hR; simp only [cS, cZ])
      | ((with_reducible apply wpList_make hR zPart); exact rfl; clear hR; intro g w hR; simp only [cS, cZ])
      | ((with_reducible apply wpList_make hR zTok); exact rfl; clear hR; intro g w hR; simp only [cS, cZ])
      | ((with_reducible apply q_ls hR); exact rfl; ((with_reducible first | apply t_addr fPart6 | apply t_addr fPart7 | apply t_addr (fTok _ (by decide)) | apply t_one tIntV | apply t_one tStrE | apply t_part tPart | apply t_part tTok) <;> (first | (focus (repeat (first | (apply EvC.gv; exact rfl; (with_reducible first | exact Imp.refl _ | (apply Imp.left; exact Imp.refl _) | (apply Imp.right; exact Imp.refl _) | (apply Imp.left; apply Imp.left; exact Imp.refl _))) | (apply EvC.now; exact rfl) | (with_reducible first | apply EvAll.cons | exact EvAll.nil))); done) | exact rfl | (first | exact ext_part _ | exact ext_tok _) | (focus (repeat (first | apply List.Mem.head | apply List.Mem.tail | apply List.mem_append_right))))); (simp only [cS, cZ]; exact rfl); clear hR; intro w hR)
      | (go_at_call 42; refine (nextE_any (hR.get (by (focus (repeat (first | apply List.Mem.head | apply List.Mem.tail | apply List.mem_append_right))))) (hS1.own hR)).mono ?_; rintro e w' ⟨rfl, hb⟩; replace hR := hR.grow hb; clear hb)
      | ((with_reducible apply wpList_put hR tPart); exact rfl; exact rfl; exact rfl; (focus (repeat (first | apply List.Mem.head | apply List.Mem.tail | apply List.mem_append_right))); exact put_part _ _; exact rfl; exact Nat.le_refl 14; exact one_part _; (focus (repeat (first | apply Upd.head | apply Upd.tail))); clear hR; intro w hR)
      | ((with_reducible apply wpList_put hR tTok); exact rfl; exact rfl; exact rfl; (focus (repeat (first | apply List.Mem.head | apply List.Mem.tail | apply List.mem_append_right))); exact put_tok _ _; exact rfl; exact Nat.le_refl 4; exact one_tok _; (focus (repeat (first | apply Upd.head | apply Upd.tail))); clear hR; intro w hR)
      | (go_at_call 52; refine (HL.out _).mono ?_; rintro e w' ⟨rfl, hb⟩; replace hR := hR.grow hb; clear hb))
    refine wp_cond_at (nm := false) rfl rfl (fun h => absurd h (by decide)) (fun _ => ?_)
    go_upto_region 5 with fail
    refine wp_region_tame hR [0, 1, 2, 3, 4, 5, 6, 7, 8, 9] rfl ?_
    repeat (refine wpT_step rfl ?_; first
    | ((first | (with_reducible apply q_pl) | ((with_reducible apply q_gd); (first | (apply GdBy.gt; exact rfl; exact rfl) | (apply GdBy.gf; exact rfl; exact rfl) | (apply GdBy.t; exact rfl; exact rfl) | (apply GdBy.f; exact rfl; exact rfl)))); (first | ((with_reducible first | apply t_move | apply t_assign | apply t_and | apply t_or | apply t_cmp | apply t_not | apply t_addr fPart6 | apply t_addr fPart7 | apply t_addr (fTok _ (by decide)) | apply t_one tIntV | apply t_one tStrE | apply t_part tPart | apply t_part tTok) <;> (first | (focus (repeat (first | (apply EvC.gv; exact rfl; (with_reducible first | exact Imp.refl _ | (apply Imp.left; exact Imp.refl _) | (apply Imp.right; exact Imp.refl _) | (apply Imp.left; apply Imp.left; exact Imp.refl _))) | (apply EvC.now; exact rfl) | (with_reducible first | apply EvAll.cons | exact EvAll.nil))); done) | exact rfl | (first | exact ext_part _ | exact ext_tok _) | (focus (repeat (first | apply List.Mem.head | apply List.Mem.tail | apply List.mem_append_right)))))); (simp only [cS, cZ]; exact rfl))
    | ((first | (with_reducible apply q_pl) | ((with_reducible apply q_gd); (first | (apply GdBy.gt; exact rfl; exact rfl) | (apply GdBy.gf; exact rfl; exact rfl) | (apply GdBy.t; exact rfl; exact rfl) | (apply GdBy.f; exact rfl; exact rfl)))); (with_reducible apply t_call Tryd.call55); (first | (focus (repeat (first | (apply EvC.gv; exact rfl; (with_reducible first | exact Imp.refl _ | (apply Imp.left; exact Imp.refl _) | (apply Imp.right; exact Imp.refl _) | (apply Imp.left; apply Imp.left; exact Imp.refl _))) | (apply EvC.now; exact rfl) | (with_reducible first | apply EvAll.cons | exact EvAll.nil))); done) | exact rfl | (first | exact ext_part _ | exact ext_tok _) | (focus (repeat (first | apply List.Mem.head | apply List.Mem.tail | apply List.mem_append_right)))); (intro hcc w hC; exact tame_same' (pointE_any ht _) hC); (simp only [cS, cZ]; exact rfl))
    | ((with_reducible apply q_gd); (first | (apply GdBy.gt; exact rfl; exact rfl) | (apply GdBy.gf; exact rfl; exact rfl) | (apply GdBy.t; exact rfl; exact rfl) | (apply GdBy.f; exact rfl; exact rfl)); ((with_reducible apply t_num) <;> (first | (focus (repeat (first | (apply EvC.gv; exact rfl; (with_reducible first | exact Imp.refl _ | (apply Imp.left; exact Imp.refl _) | (apply Imp.right; exact Imp.refl _) | (apply Imp.left; apply Imp.left; exact Imp.refl _))) | (apply EvC.now; exact rfl) | (with_reducible first | apply EvAll.cons | exact EvAll.nil))); done) | exact rfl | (first | exact ext_part _ | exact ext_tok _) | (focus (repeat (first | apply List.Mem.head | apply List.Mem.tail | apply List.mem_append_right))))); (simp only [cS, cZ]; exact rfl))
    | ((with_reducible apply wpT1_gpure); (first | (apply GdBy.gt; exact rfl; exact rfl) | (apply GdBy.gf; exact rfl; exact rfl) | (apply GdBy.t; exact rfl; exact rfl) | (apply GdBy.f; exact rfl; exact rfl)); intro K hK; go_simp; refine hK _ ?_; clear hK K; simp only [cS, cZ])
    | ((with_reducible apply wpT1_pure); exact rfl; intro K hK; go_simp; refine hK _ ?_; clear hK K; simp only [cS, cZ]))
    refine wpT_nil ?_
    clear hR; intro w hR
    go_upto_if 20 with fail
    refine wp_cond_at (nm := false) rfl HP.out (fun h => absurd h (by decide)) (fun _ => ?_)
    go_upto_if 45 with (first
    | (go_at_call 57; refine (HG.out _ _ hR (by (focus (repeat (first | apply List.Mem.head | apply List.Mem.tail | apply List.mem_append_right))))).mono ?_; rintro e w' ⟨rfl, hb⟩; replace hR := hR.grow hb; clear hb))
    refine wp_cond_at (nm := false) rfl rfl (fun h => absurd h (by decide)) (fun _ => ?_)
    go_wp2_with (first
    | (go_at_call 59; refine (ansR_bad (HN.out s _ _ _ _ (by rw [HM.out]; trivial) hS1 hR (by (focus (repeat (first | apply Del.head | apply Del.tail)))) (fun _ h => nomatch h)) HM.out).mono ?_; rintro e w' ⟨rfl, hO⟩; clear hR; have hR := hO; clear hO))
    exact ⟨rfl, rfl, hR.drop (by (focus (repeat (with_reducible first | exact List.Sublist.slnil | exact List.nil_sublist _ | exact List.Sublist.refl _ | exact List.sublist_append_right _ _ | apply List.Sublist.cons_cons | apply List.Sublist.cons | apply sub_right))))⟩
  · exfalso; rw [hm] at hgot; exact hgot
theorem aheadE_any {w0 : World} (hT : Tabs w0) {gr : Nat} {tb : TabZ} {ah on : St → Rs PartZ} (hA : RdOk w0 gr tb [] 40 #[.pointer (some ⟨gr, 0, none⟩)] ah) (hN : RdOk w0 gr tb [] 59 #[.pointer (some ⟨gr, 0, none⟩)] on) :
    RdOk w0 gr tb [] 40 #[.pointer (some ⟨gr, 0, none⟩)] (aheadM ah on) := by
  have hcf : ∀ (args : Array Value) w, (callFunc 40 args).run Tryd.prog w = .ok (.enter 40 args) w := Tryd.call40
  have hD : RdOk w0 gr tb [] 54 #[.pointer (some ⟨gr, 0, none⟩), .func (.func 40) #[.pointer (some ⟨gr, 0, none⟩)] #[]] (deepM ah) := deepE_any hcf (fs := #[.pointer (some ⟨gr, 0, none⟩)]) (cp := #[]) hA
  intro s v w L R hgot hS hO hd hK
  unfold aheadM at hgot ⊢
  obtain ⟨l, d, m, i⟩ := s
  cases hl : leadsZ (nextZ ⟨l, d, m, i⟩)
  · rw [hl, cond_false] at hgot
    rw [cond_false]
    cases hp : (decide ((nextZ ⟨l, d, m, i⟩).k = 1) && !decide (pointedZ (nextZ ⟨l, d, m, i⟩).s = 0))
    · rw [hp, cond_false] at hgot
      rw [cond_false]
      cases hg : segB ⟨l, d, m, i⟩
      · rw [hg, cond_false] at hgot
        rw [cond_false]
        exact plainA_any hT hN hl hp hg hgot hS hO hd
      · rw [hg, cond_true] at hgot
        rw [cond_true]
        obtain ⟨t, u, r, hlt, h16, hu⟩ := seg_ways hg
        simp only at hlt
        subst hlt
        exact segA_any hT hD hl hp hg hu hgot hS hO hd
    · rw [hp, cond_true] at hgot
      rw [cond_true]
      rcases l with _ | ⟨t, r⟩
      · rw [show nextZ ⟨[], d, m, i⟩ = noTok from rfl] at hp; exact absurd hp (by decide)
      exact ptrA_any hD hl hp hgot hS hO hd
  · rw [hl, cond_true] at hgot
    rw [cond_true]
    rcases l with _ | ⟨t, r⟩
    · rw [show nextZ ⟨[], d, m, i⟩ = noTok from rfl] at hl; exact absurd hl (by decide)
    exact leadA_any hD hl hgot hS hO hd
theorem readE_all {w0 : World} (hT : Tabs w0) {gr : Nat} {tb : TabZ} (hB : TabIn w0 tb) : ∀ n : Nat,
    (∀ k : Int, 1 ≤ k → RdOk w0 gr tb [] 29 #[.pointer (some ⟨gr, 0, none⟩), .int .i64 k] (parseM tb n (.ex k))) ∧
    RdOk w0 gr tb [] 40 #[.pointer (some ⟨gr, 0, none⟩)] (parseM tb n .ah) ∧ RdOk w0 gr tb [] 59 #[.pointer (some ⟨gr, 0, none⟩)] (parseM tb n .on) := by
  intro n
  induction n using Nat.strongRecOn with
  | _ n ih =>
    rcases n with _ | n
    · exact ⟨fun k _ s v w L R h => h.elim, fun s v w L R h => h.elim, fun s v w L R h => h.elim⟩
    · obtain ⟨h1, h2, h3⟩ := ih n (Nat.lt_succ_self n)
      refine ⟨fun k hk => exE_any n h2 (fun j hj k hk1 _ => (ih j (by omega)).1 k hk1) k hk, ?_, oneE_any hT hB n fun k hk => (ih k (by omega)).1 1 (by decide)⟩
      exact aheadE_any hT h2 h3
end Go.Proofs.YtckkgooabnlooaaDoor
