









/- Contracts of package expr's bracketed and first. No statement of the seat is proved here. -/
import Derived.Test.YtckkgooabnlooaaDoorExpK
namespace Go.Proofs.YtckkgooabnlooaaDoor
open Go.ChangeShapes Go.WideShapes Go.ChangeAt Go.RowKit
set_option linter.unusedVariables false
set_option linter.unusedSimpArgs false
set_option maxRecDepth 100000

theorem wpList_box1 {P : Program} {ops : Array Oper} {rest : List Oper} {Q : Exit → Act → World → Prop} {ls : List Value} {ds : List Deferred} {w0 w : World} {l : List RowT} {tp : TypeId} {pos : String} {af : Array Edge} {gd : Option (Nat × Bool)} (hR : Own w0 w l) {d : Tmp} {v : Value} {c : Array Value} {ty : TypeId} {x : Operand} (hgd : Region.wanted ⟨some d, .box ty x, tp, pos, af, gd⟩ (yielded ops ls.toArray) = true) (hx : evalL ls x = some v) (hc : v.cells = c)
    (h : ∀ g w', Own w0 w' ((g, c, ty) :: l) → wpList P ops Q rest ⟨(ls.set d (.pointer (some ⟨g, 0, none⟩))).toArray, ds⟩ w') : wpList P ops Q (⟨some d, .box ty x, tp, pos, af, gd⟩ :: rest) ⟨ls.toArray, ds⟩ w :=
  wpList_run_value hgd (run_boxRow rfl (eval_of hx) hc) (by rw [put_list]; exact h _ _ (hR.alloc c ty))
def ptrC (gr : Nat) : Array Value := #[.pointer (some ⟨gr, 0, none⟩)]
theorem closE_any {w0 : World} {gr gb : Nat} {tb : TabZ} {m : St → Rs PartZ} (hF : RdOk w0 gr tb [] 29 #[.pointer (some ⟨gr, 0, none⟩), .int .i64 1] m) :
    RdOk w0 gr tb [(gb, ptrC gr, 84)] 98 (#[] ++ #[.pointer (some ⟨gb, 0, none⟩)]) m := by
  intro s v w L R hgot hS hO hd hK
  have hR := hO.lead hd
  have HK := Lib.hid (hK _ (.head _))
  clear hO hd hK
  rw [show (#[] ++ #[Value.pointer (some ⟨gb, 0, none⟩)] : Array Value) = #[.pointer (some ⟨gb, 0, none⟩)] from rfl]
  have HC := Lib.hid (fun (w' : World) (X L' : List RowT) (hO : Own w0 w' L') (hd' : Del (gr, rdr v tb s, 66) L' X) => hF s v w' L' X hgot hS hO hd' (fun _ h => nomatch h))
  clear hF hS
  rcases hm : m s with ⟨p, s2⟩ | e | _
  · rw [hm] at HC
    refine okR_ans ?_ rfl
    clear hm hgot
    go_enter Tryd.func98, Tryd.ntmps98
    go_wp2_with (first
    | ((with_reducible apply q_ls hR); exact rfl; (with_reducible apply t_one tPtrE); (apply EvC.now; exact rfl); (exact .tail _ (.tail _ HK.out)); exact rfl; (simp only [cS, cZ]; exact rfl); clear hR; intro w hR)
    | ((with_reducible apply wpList_box hR); exact rfl; exact rfl; clear hR; intro g w hR; simp only [cS, cZ])
    | ((with_reducible apply wpList_make hR zPart); exact rfl; clear hR; intro g w hR; simp only [cS, cZ])
    | ((with_reducible apply wpList_make hR zTok); exact rfl; clear hR; intro g w hR; simp only [cS, cZ])
    | ((with_reducible apply q_ls hR); exact rfl; ((with_reducible first | apply t_addr fPart3 | apply t_addr (fTok _ (by decide)) | apply t_addr fRdr4 | apply t_nilck | apply t_one tIntV | apply t_one tStrE | apply t_one tPtrE | apply t_part tPart) <;> (first | (focus (repeat (first | (apply EvC.gv; exact rfl; (with_reducible first | exact Imp.refl _ | (apply Imp.left; exact Imp.refl _) | (apply Imp.right; exact Imp.refl _) | (apply Imp.left; apply Imp.left; exact Imp.refl _))) | (apply EvC.now; exact rfl) | (with_reducible first | apply EvAll.cons | exact EvAll.nil))); done) | exact rfl | exact ext_part _ | (focus (repeat (first | apply List.Mem.head | apply List.Mem.tail | apply List.mem_append_right))))); (simp only [cS, cZ]; exact rfl); clear hR; intro w hR)
    | (go_at_call 29; refine (HC.out _ _ _ hR (by (focus (repeat (first | apply Del.head | apply Del.tail))))).mono ?_; rintro e w' ⟨rfl, v2, hS2, hO⟩; clear hR; have hR := hO; clear hO)
    | ((with_reducible apply wpList_put hR tPart); exact rfl; exact rfl; exact rfl; (focus (repeat (first | apply List.Mem.head | apply List.Mem.tail | apply List.mem_append_right))); exact put_part _ _; exact rfl; exact Nat.le_refl 14; exact one_part _; (focus (repeat (first | apply Upd.head | apply Upd.tail))); clear hR; intro w hR)
    | ((with_reducible apply wpList_put hR tTok); exact rfl; exact rfl; exact rfl; (focus (repeat (first | apply List.Mem.head | apply List.Mem.tail | apply List.mem_append_right))); exact put_tok _ _; exact rfl; exact Nat.le_refl 4; exact one_tok _; (focus (repeat (first | apply Upd.head | apply Upd.tail))); clear hR; intro w hR))
    (try simp only [Exit.inBlock, Exit.then])
    exact post_row hR rfl (by rfl) (by (focus (repeat (first | apply List.Mem.head | apply List.Mem.tail | apply List.mem_append_right)))) Tryd.underlying69 rfl iPart (by rfl) (by rfl) ⟨rfl, _, hS2, (hR.lead (by (focus (repeat (first | apply Del.head | apply Del.tail))))).drop (List.Sublist.cons_cons _ (by (focus (repeat (with_reducible first | exact List.Sublist.slnil | exact List.nil_sublist _ | exact List.Sublist.refl _ | exact List.sublist_append_right _ _ | apply List.Sublist.cons_cons | apply List.Sublist.cons | apply sub_right)))))⟩
  · rw [hm] at HC
    refine badR_ans ?_ rfl
    clear hm hgot
    go_enter Tryd.func98, Tryd.ntmps98
    go_wp2_with (first
    | ((with_reducible apply q_ls hR); exact rfl; (with_reducible apply t_one tPtrE); (apply EvC.now; exact rfl); (exact .tail _ (.tail _ HK.out)); exact rfl; (simp only [cS, cZ]; exact rfl); clear hR; intro w hR)
    | ((with_reducible apply wpList_box hR); exact rfl; exact rfl; clear hR; intro g w hR; simp only [cS, cZ])
    | ((with_reducible apply wpList_make hR zPart); exact rfl; clear hR; intro g w hR; simp only [cS, cZ])
    | ((with_reducible apply wpList_make hR zTok); exact rfl; clear hR; intro g w hR; simp only [cS, cZ])
    | ((with_reducible apply q_ls hR); exact rfl; ((with_reducible first | apply t_addr fPart3 | apply t_addr (fTok _ (by decide)) | apply t_addr fRdr4 | apply t_nilck | apply t_one tIntV | apply t_one tStrE | apply t_one tPtrE | apply t_part tPart) <;> (first | (focus (repeat (first | (apply EvC.gv; exact rfl; (with_reducible first | exact Imp.refl _ | (apply Imp.left; exact Imp.refl _) | (apply Imp.right; exact Imp.refl _) | (apply Imp.left; apply Imp.left; exact Imp.refl _))) | (apply EvC.now; exact rfl) | (with_reducible first | apply EvAll.cons | exact EvAll.nil))); done) | exact rfl | exact ext_part _ | (focus (repeat (first | apply List.Mem.head | apply List.Mem.tail | apply List.mem_append_right))))); (simp only [cS, cZ]; exact rfl); clear hR; intro w hR)
    | (go_at_call 29; refine (HC.out _ _ _ hR (by (focus (repeat (first | apply Del.head | apply Del.tail))))).mono ?_; rintro e w' ⟨rfl, hO⟩; clear hR; have hR := hO; clear hO))
    exact ⟨rfl, rfl, hR.drop (by (focus (repeat (with_reducible first | exact List.Sublist.slnil | exact List.nil_sublist _ | exact List.Sublist.refl _ | exact List.sublist_append_right _ _ | apply List.Sublist.cons_cons | apply List.Sublist.cons | apply sub_right))))⟩
  · exfalso; rw [hm] at hgot; exact hgot
/-! ### Brackets -/
theorem must_ok {α : Type} {a : α} {s s2 : St} {c : List Int} (h : mustM () s c = .ok () s2) : mustM a s c = .ok a s2 := by
  unfold mustM at h ⊢
  rcases hl : s.l with _ | ⟨t, r⟩
  · rw [hl] at h; exact nomatch h
  · rw [hl] at h
    cases hb : isZ t 4 c
    · simp only [hb, cond_false] at h; exact nomatch h
    · simp only [hb, cond_true, Rs.ok.injEq, true_and] at h ⊢; exact h
theorem must_bad {α : Type} {a : α} {s : St} {c : List Int} {e : Int} (h : mustM () s c = .bad e) : mustM a s c = .bad e := by
  unfold mustM at h ⊢
  rcases hl : s.l with _ | ⟨t, r⟩
  · rw [hl] at h
    simp only [Rs.bad.injEq] at h ⊢; exact h
  · rw [hl] at h
    cases hb : isZ t 4 c
    · simp only [hb, cond_false, Rs.bad.injEq] at h ⊢; exact h
    · simp only [hb, cond_true] at h; exact nomatch h
theorem must_out {s : St} {c : List Int} (h : mustM () s c = .out) : False := by
  unfold mustM at h
  rcases hl : s.l with _ | ⟨t, r⟩
  · rw [hl] at h; exact nomatch h
  · rw [hl] at h
    cases hb : isZ t 4 c
    · simp only [hb, cond_false] at h; exact nomatch h
    · simp only [hb, cond_true] at h; exact nomatch h
set_option maxHeartbeats 8000000 in
theorem parenE_any {w0 : World} {gr : Nat} {tb : TabZ} {ex : St → Rs PartZ} (hF : RdOk w0 gr tb [] 29 #[.pointer (some ⟨gr, 0, none⟩), .int .i64 1] ex) {a : List Int} (hs : bytesOk a) (h1 : a = sOPEN) :
    RdOk w0 gr tb [] 92 #[.pointer (some ⟨gr, 0, none⟩), .string (strOfNums a)] (fun s => closeR (deepM ex s)) := by
  intro s v w L R hgot hS hO hd hK
  have hR := hO.lead hd
  clear hO hd hK
  have H1 := Lib.hid h1
  clear h1
  have hcf : ∀ (args : Array Value) w, (callFunc 98 args).run Tryd.prog w = .ok (.enter 98 args) w := Tryd.call98
  have HX := Lib.hid (fun (gb : Nat) => deepE_any hcf (fs := #[]) (cp := #[.pointer (some ⟨gb, 0, none⟩)]) (closE_any (gb := gb) hF))
  clear hF hcf
  simp only at hgot ⊢
  rcases hm : deepM ex s with ⟨p, s2⟩ | e | _
  · have HD := Lib.hid (fun (gb : Nat) (w' : World) (X L' : List RowT) (hO : Own w0 w' L') (hd' : Del (gr, rdr v tb s, 66) L' X) (hK' : ∀ r ∈ [(gb, ptrC gr, 84)], r ∈ X) => ansR_ok (HX.out gb s v w' L' X (by rw [hm]; trivial) hS hO hd' hK') hm)
    rw [hm] at hgot
    clear HX hm hS
    rcases hu : mustM () s2 sCLOSE with ⟨u, s3⟩ | e | _
    · refine okR_ans ?_ (must_ok (a := p) hu)
      have HU := Lib.hid hu
      clear hu hgot
      go_enter Tryd.func92, Tryd.ntmps92
      go_wp2_with (first
    | ((with_reducible apply wpList_box1 hR); exact rfl; exact rfl; exact rfl; clear hR; intro gb w hR; simp only [cS, cZ])
    | ((with_reducible apply wpList_func); exact rfl; exact rfl; simp only [cS, cZ])
    | ((with_reducible apply wpList_box hR); exact rfl; exact rfl; clear hR; intro g w hR; simp only [cS, cZ])
    | ((with_reducible apply wpList_make hR zPart); exact rfl; clear hR; intro g w hR; simp only [cS, cZ])
    | ((with_reducible apply wpList_make hR zTok); exact rfl; clear hR; intro g w hR; simp only [cS, cZ])
    | ((with_reducible apply q_ls hR); exact rfl; ((with_reducible first | apply t_addr fPart3 | apply t_addr (fTok _ (by decide)) | apply t_addr fRdr4 | apply t_nilck | apply t_one tIntV | apply t_one tStrE | apply t_one tPtrE | apply t_part tPart) <;> (first | (focus (repeat (first | (apply EvC.gv; exact rfl; (with_reducible first | exact Imp.refl _ | (apply Imp.left; exact Imp.refl _) | (apply Imp.right; exact Imp.refl _) | (apply Imp.left; apply Imp.left; exact Imp.refl _))) | (apply EvC.now; exact rfl) | (with_reducible first | apply EvAll.cons | exact EvAll.nil))); done) | exact rfl | exact ext_part _ | (focus (repeat (first | apply List.Mem.head | apply List.Mem.tail | apply List.mem_append_right))))); (simp only [cS, cZ]; exact rfl); clear hR; intro w hR)
    | ((with_reducible apply q_ls hR); exact rfl; (with_reducible apply t_wordT lsOPEN oksOPEN hs H1.out); (apply EvC.now; exact rfl); (simp only [cS, cZ]; exact rfl); clear hR; intro w hR)
    | (go_at_call 54; refine (HD.out _ _ _ _ hR (by (focus (repeat (first | apply Del.head | apply Del.tail)))) (fun r hr => by cases hr with | head => exact (by (focus (repeat (first | apply List.Mem.head | apply List.Mem.tail | apply List.mem_append_right)))) | tail _ h => exact nomatch h)).mono ?_; rintro e w' ⟨rfl, v2, hS2, hO⟩; clear hR; have hR := hO; clear hO)
    | (go_at_call 58; refine (ansR_ok (mustE_any hS2 hR (by (focus (repeat (first | apply Del.head | apply Del.tail)))) oksCLOSE) HU.out).mono ?_; rintro e w' ⟨rfl, v2, hS2, hO⟩; clear hR; have hR := hO; clear hO)
    | ((with_reducible apply wpList_put hR tPart); exact rfl; exact rfl; exact rfl; (focus (repeat (first | apply List.Mem.head | apply List.Mem.tail | apply List.mem_append_right))); exact put_part _ _; exact rfl; exact Nat.le_refl 14; exact one_part _; (focus (repeat (first | apply Upd.head | apply Upd.tail))); clear hR; intro w hR)
    | ((with_reducible apply wpList_put hR tTok); exact rfl; exact rfl; exact rfl; (focus (repeat (first | apply List.Mem.head | apply List.Mem.tail | apply List.mem_append_right))); exact put_tok _ _; exact rfl; exact Nat.le_refl 4; exact one_tok _; (focus (repeat (first | apply Upd.head | apply Upd.tail))); clear hR; intro w hR))
      (try simp only [Exit.inBlock, Exit.then])
      exact post_row hR rfl (by rfl) (by (focus (repeat (first | apply List.Mem.head | apply List.Mem.tail | apply List.mem_append_right)))) Tryd.underlying69 rfl iPart (by rfl) (by rfl) ⟨rfl, _, hS2, (hR.lead (by (focus (repeat (first | apply Del.head | apply Del.tail))))).drop (List.Sublist.cons_cons _ (by (focus (repeat (with_reducible first | exact List.Sublist.slnil | exact List.nil_sublist _ | exact List.Sublist.refl _ | exact List.sublist_append_right _ _ | apply List.Sublist.cons_cons | apply List.Sublist.cons | apply sub_right)))))⟩
    · refine badR_ans ?_ (must_bad (a := p) hu)
      have HU := Lib.hid hu
      clear hu hgot
      go_enter Tryd.func92, Tryd.ntmps92
      go_wp2_with (first
    | ((with_reducible apply wpList_box1 hR); exact rfl; exact rfl; exact rfl; clear hR; intro gb w hR; simp only [cS, cZ])
    | ((with_reducible apply wpList_func); exact rfl; exact rfl; simp only [cS, cZ])
    | ((with_reducible apply wpList_box hR); exact rfl; exact rfl; clear hR; intro g w hR; simp only [cS, cZ])
    | ((with_reducible apply wpList_make hR zPart); exact rfl; clear hR; intro g w hR; simp only [cS, cZ])
    | ((with_reducible apply wpList_make hR zTok); exact rfl; clear hR; intro g w hR; simp only [cS, cZ])
    | ((with_reducible apply q_ls hR); exact rfl; ((with_reducible first | apply t_addr fPart3 | apply t_addr (fTok _ (by decide)) | apply t_addr fRdr4 | apply t_nilck | apply t_one tIntV | apply t_one tStrE | apply t_one tPtrE | apply t_part tPart) <;> (first | (focus (repeat (first | (apply EvC.gv; exact rfl; (with_reducible first | exact Imp.refl _ | (apply Imp.left; exact Imp.refl _) | (apply Imp.right; exact Imp.refl _) | (apply Imp.left; apply Imp.left; exact Imp.refl _))) | (apply EvC.now; exact rfl) | (with_reducible first | apply EvAll.cons | exact EvAll.nil))); done) | exact rfl | exact ext_part _ | (focus (repeat (first | apply List.Mem.head | apply List.Mem.tail | apply List.mem_append_right))))); (simp only [cS, cZ]; exact rfl); clear hR; intro w hR)
    | ((with_reducible apply q_ls hR); exact rfl; (with_reducible apply t_wordT lsOPEN oksOPEN hs H1.out); (apply EvC.now; exact rfl); (simp only [cS, cZ]; exact rfl); clear hR; intro w hR)
    | (go_at_call 54; refine (HD.out _ _ _ _ hR (by (focus (repeat (first | apply Del.head | apply Del.tail)))) (fun r hr => by cases hr with | head => exact (by (focus (repeat (first | apply List.Mem.head | apply List.Mem.tail | apply List.mem_append_right)))) | tail _ h => exact nomatch h)).mono ?_; rintro e w' ⟨rfl, v2, hS2, hO⟩; clear hR; have hR := hO; clear hO)
    | (go_at_call 58; refine (ansR_bad (mustE_any hS2 hR (by (focus (repeat (first | apply Del.head | apply Del.tail)))) oksCLOSE) HU.out).mono ?_; rintro e w' ⟨rfl, hO⟩; clear hR; have hR := hO; clear hO)
    | ((with_reducible apply wpList_put hR tPart); exact rfl; exact rfl; exact rfl; (focus (repeat (first | apply List.Mem.head | apply List.Mem.tail | apply List.mem_append_right))); exact put_part _ _; exact rfl; exact Nat.le_refl 14; exact one_part _; (focus (repeat (first | apply Upd.head | apply Upd.tail))); clear hR; intro w hR)
    | ((with_reducible apply wpList_put hR tTok); exact rfl; exact rfl; exact rfl; (focus (repeat (first | apply List.Mem.head | apply List.Mem.tail | apply List.mem_append_right))); exact put_tok _ _; exact rfl; exact Nat.le_refl 4; exact one_tok _; (focus (repeat (first | apply Upd.head | apply Upd.tail))); clear hR; intro w hR))
      exact ⟨rfl, rfl, hR.drop (by (focus (repeat (with_reducible first | exact List.Sublist.slnil | exact List.nil_sublist _ | exact List.Sublist.refl _ | exact List.sublist_append_right _ _ | apply List.Sublist.cons_cons | apply List.Sublist.cons | apply sub_right))))⟩
    · exact (must_out hu).elim
  · have HD := Lib.hid (fun (gb : Nat) (w' : World) (X L' : List RowT) (hO : Own w0 w' L') (hd' : Del (gr, rdr v tb s, 66) L' X) (hK' : ∀ r ∈ [(gb, ptrC gr, 84)], r ∈ X) => ansR_bad (HX.out gb s v w' L' X (by rw [hm]; trivial) hS hO hd' hK') hm)
    refine badR_ans ?_ rfl
    clear HX hm hS hgot
    go_enter Tryd.func92, Tryd.ntmps92
    go_wp2_with (first
    | ((with_reducible apply wpList_box1 hR); exact rfl; exact rfl; exact rfl; clear hR; intro gb w hR; simp only [cS, cZ])
    | ((with_reducible apply wpList_func); exact rfl; exact rfl; simp only [cS, cZ])
    | ((with_reducible apply wpList_box hR); exact rfl; exact rfl; clear hR; intro g w hR; simp only [cS, cZ])
    | ((with_reducible apply wpList_make hR zPart); exact rfl; clear hR; intro g w hR; simp only [cS, cZ])
    | ((with_reducible apply wpList_make hR zTok); exact rfl; clear hR; intro g w hR; simp only [cS, cZ])
    | ((with_reducible apply q_ls hR); exact rfl; ((with_reducible first | apply t_addr fPart3 | apply t_addr (fTok _ (by decide)) | apply t_addr fRdr4 | apply t_nilck | apply t_one tIntV | apply t_one tStrE | apply t_one tPtrE | apply t_part tPart) <;> (first | (focus (repeat (first | (apply EvC.gv; exact rfl; (with_reducible first | exact Imp.refl _ | (apply Imp.left; exact Imp.refl _) | (apply Imp.right; exact Imp.refl _) | (apply Imp.left; apply Imp.left; exact Imp.refl _))) | (apply EvC.now; exact rfl) | (with_reducible first | apply EvAll.cons | exact EvAll.nil))); done) | exact rfl | exact ext_part _ | (focus (repeat (first | apply List.Mem.head | apply List.Mem.tail | apply List.mem_append_right))))); (simp only [cS, cZ]; exact rfl); clear hR; intro w hR)
    | ((with_reducible apply q_ls hR); exact rfl; (with_reducible apply t_wordT lsOPEN oksOPEN hs H1.out); (apply EvC.now; exact rfl); (simp only [cS, cZ]; exact rfl); clear hR; intro w hR)
    | (go_at_call 54; refine (HD.out _ _ _ _ hR (by (focus (repeat (first | apply Del.head | apply Del.tail)))) (fun r hr => by cases hr with | head => exact (by (focus (repeat (first | apply List.Mem.head | apply List.Mem.tail | apply List.mem_append_right)))) | tail _ h => exact nomatch h)).mono ?_; rintro e w' ⟨rfl, hO⟩; clear hR; have hR := hO; clear hO))
    exact ⟨rfl, rfl, hR.drop (by (focus (repeat (with_reducible first | exact List.Sublist.slnil | exact List.nil_sublist _ | exact List.Sublist.refl _ | exact List.sublist_append_right _ _ | apply List.Sublist.cons_cons | apply List.Sublist.cons | apply sub_right))))⟩
  · exfalso; rw [hm] at hgot; exact hgot
set_option maxHeartbeats 8000000 in
theorem indexE_any {w0 : World} {gr : Nat} {tb : TabZ} {ex : St → Rs PartZ} (hF : RdOk w0 gr tb [] 29 #[.pointer (some ⟨gr, 0, none⟩), .int .i64 1] ex) {a : List Int} (hs : bytesOk a) (h0 : ¬ a = sOPEN) (h1 : a = sIN) :
    RdOk w0 gr tb [] 92 #[.pointer (some ⟨gr, 0, none⟩), .string (strOfNums a)] (fun s => endR (deepM ex (inS s))) := by
  intro s v w L R hgot hS hO hd hK
  have hR := hO.lead hd
  clear hO hd hK
  have H0 := Lib.hid h0
  have H1 := Lib.hid h1
  clear h0 h1
  have hcf : ∀ (args : Array Value) w, (callFunc 98 args).run Tryd.prog w = .ok (.enter 98 args) w := Tryd.call98
  have HX := Lib.hid (fun (gb : Nat) => deepE_any hcf (fs := #[]) (cp := #[.pointer (some ⟨gb, 0, none⟩)]) (closE_any (gb := gb) hF))
  clear hF hcf
  simp only at hgot ⊢
  rcases hm : deepM ex (inS s) with ⟨p, s2⟩ | e | _
  · have HD := Lib.hid (fun (gb : Nat) (w' : World) (X L' : List RowT) (hO : Own w0 w' L') (hd' : Del (gr, rdr v tb (inS s), 66) L' X) (hK' : ∀ r ∈ [(gb, ptrC gr, 84)], r ∈ X) => ansR_ok (HX.out gb (inS s) v w' L' X (by rw [hm]; trivial) hS hO hd' hK') hm)
    rw [hm] at hgot
    clear HX hm hS
    rcases hu : mustM () (outS s2) sEND with ⟨u, s3⟩ | e | _
    · refine okR_ans ?_ (show endR (.ok p s2) = .ok { p with me := true } s3 from must_ok hu)
      have HU := Lib.hid hu
      clear hu hgot
      go_enter Tryd.func92, Tryd.ntmps92
      go_wp2_with (first
    | ((with_reducible apply wpList_box1 hR); exact rfl; exact rfl; exact rfl; clear hR; intro gb w hR; simp only [cS, cZ])
    | ((with_reducible apply wpList_func); exact rfl; exact rfl; simp only [cS, cZ])
    | ((with_reducible apply wpList_box hR); exact rfl; exact rfl; clear hR; intro g w hR; simp only [cS, cZ])
    | ((with_reducible apply wpList_make hR zPart); exact rfl; clear hR; intro g w hR; simp only [cS, cZ])
    | ((with_reducible apply wpList_make hR zTok); exact rfl; clear hR; intro g w hR; simp only [cS, cZ])
    | ((with_reducible apply q_ls hR); exact rfl; ((with_reducible first | apply t_addr fPart3 | apply t_addr (fTok _ (by decide)) | apply t_addr fRdr4 | apply t_nilck | apply t_one tIntV | apply t_one tStrE | apply t_one tPtrE | apply t_part tPart) <;> (first | (focus (repeat (first | (apply EvC.gv; exact rfl; (with_reducible first | exact Imp.refl _ | (apply Imp.left; exact Imp.refl _) | (apply Imp.right; exact Imp.refl _) | (apply Imp.left; apply Imp.left; exact Imp.refl _))) | (apply EvC.now; exact rfl) | (with_reducible first | apply EvAll.cons | exact EvAll.nil))); done) | exact rfl | exact ext_part _ | (focus (repeat (first | apply List.Mem.head | apply List.Mem.tail | apply List.mem_append_right))))); (simp only [cS, cZ]; exact rfl); clear hR; intro w hR)
    | ((with_reducible apply q_ls hR); exact rfl; (with_reducible apply t_wordF lsOPEN oksOPEN hs H0.out); (apply EvC.now; exact rfl); (simp only [cS, cZ]; exact rfl); clear hR; intro w hR)
    | ((with_reducible apply q_ls hR); exact rfl; (with_reducible apply t_wordT lsIN oksIN hs H1.out); (apply EvC.now; exact rfl); (simp only [cS, cZ]; exact rfl); clear hR; intro w hR)
    | ((with_reducible apply wpList_put1 hR tIntV); exact rfl; exact rfl; exact rfl; (focus (repeat (first | apply List.Mem.head | apply List.Mem.tail | apply List.mem_append_right))); exact put_ri _ _ _ _; (simp [rdr]); exact rfl; (focus (repeat (first | apply Upd.head | apply Upd.tail))); clear hR; intro w hR)
    | ((with_reducible apply wpList_put1 hR tBoolV); exact rfl; exact rfl; exact rfl; (focus (repeat (first | apply List.Mem.head | apply List.Mem.tail | apply List.mem_append_right))); exact put_pme _ _; (simp [encPt]); exact rfl; (focus (repeat (first | apply Upd.head | apply Upd.tail))); clear hR; intro w hR)
    | (go_at_call 54; refine (HD.out _ _ _ _ hR (by (focus (repeat (first | apply Del.head | apply Del.tail)))) (fun r hr => by cases hr with | head => exact (by (focus (repeat (first | apply List.Mem.head | apply List.Mem.tail | apply List.mem_append_right)))) | tail _ h => exact nomatch h)).mono ?_; rintro e w' ⟨rfl, v2, hS2, hO⟩; clear hR; have hR := hO; clear hO)
    | (go_at_call 58; refine (ansR_ok (mustE_any (s := outS s2) hS2 hR (by (focus (repeat (first | apply Del.head | apply Del.tail)))) oksEND) HU.out).mono ?_; rintro e w' ⟨rfl, v2, hS2, hO⟩; clear hR; have hR := hO; clear hO)
    | ((with_reducible apply wpList_put hR tPart); exact rfl; exact rfl; exact rfl; (focus (repeat (first | apply List.Mem.head | apply List.Mem.tail | apply List.mem_append_right))); exact put_part _ _; exact rfl; exact Nat.le_refl 14; exact one_part _; (focus (repeat (first | apply Upd.head | apply Upd.tail))); clear hR; intro w hR)
    | ((with_reducible apply wpList_put hR tTok); exact rfl; exact rfl; exact rfl; (focus (repeat (first | apply List.Mem.head | apply List.Mem.tail | apply List.mem_append_right))); exact put_tok _ _; exact rfl; exact Nat.le_refl 4; exact one_tok _; (focus (repeat (first | apply Upd.head | apply Upd.tail))); clear hR; intro w hR))
      (try simp only [Exit.inBlock, Exit.then])
      exact post_row hR rfl (by rfl) (by (focus (repeat (first | apply List.Mem.head | apply List.Mem.tail | apply List.mem_append_right)))) Tryd.underlying69 rfl iPart (by rfl) (by rfl) ⟨rfl, _, hS2, (hR.lead (by (focus (repeat (first | apply Del.head | apply Del.tail))))).drop (List.Sublist.cons_cons _ (by (focus (repeat (with_reducible first | exact List.Sublist.slnil | exact List.nil_sublist _ | exact List.Sublist.refl _ | exact List.sublist_append_right _ _ | apply List.Sublist.cons_cons | apply List.Sublist.cons | apply sub_right)))))⟩
    · refine badR_ans ?_ (show endR (.ok p s2) = .bad e from must_bad hu)
      have HU := Lib.hid hu
      clear hu hgot
      go_enter Tryd.func92, Tryd.ntmps92
      go_wp2_with (first
    | ((with_reducible apply wpList_box1 hR); exact rfl; exact rfl; exact rfl; clear hR; intro gb w hR; simp only [cS, cZ])
    | ((with_reducible apply wpList_func); exact rfl; exact rfl; simp only [cS, cZ])
    | ((with_reducible apply wpList_box hR); exact rfl; exact rfl; clear hR; intro g w hR; simp only [cS, cZ])
    | ((with_reducible apply wpList_make hR zPart); exact rfl; clear hR; intro g w hR; simp only [cS, cZ])
    | ((with_reducible apply wpList_make hR zTok); exact rfl; clear hR; intro g w hR; simp only [cS, cZ])
    | ((with_reducible apply q_ls hR); exact rfl; ((with_reducible first | apply t_addr fPart3 | apply t_addr (fTok _ (by decide)) | apply t_addr fRdr4 | apply t_nilck | apply t_one tIntV | apply t_one tStrE | apply t_one tPtrE | apply t_part tPart) <;> (first | (focus (repeat (first | (apply EvC.gv; exact rfl; (with_reducible first | exact Imp.refl _ | (apply Imp.left; exact Imp.refl _) | (apply Imp.right; exact Imp.refl _) | (apply Imp.left; apply Imp.left; exact Imp.refl _))) | (apply EvC.now; exact rfl) | (with_reducible first | apply EvAll.cons | exact EvAll.nil))); done) | exact rfl | exact ext_part _ | (focus (repeat (first | apply List.Mem.head | apply List.Mem.tail | apply List.mem_append_right))))); (simp only [cS, cZ]; exact rfl); clear hR; intro w hR)
    | ((with_reducible apply q_ls hR); exact rfl; (with_reducible apply t_wordF lsOPEN oksOPEN hs H0.out); (apply EvC.now; exact rfl); (simp only [cS, cZ]; exact rfl); clear hR; intro w hR)
    | ((with_reducible apply q_ls hR); exact rfl; (with_reducible apply t_wordT lsIN oksIN hs H1.out); (apply EvC.now; exact rfl); (simp only [cS, cZ]; exact rfl); clear hR; intro w hR)
    | ((with_reducible apply wpList_put1 hR tIntV); exact rfl; exact rfl; exact rfl; (focus (repeat (first | apply List.Mem.head | apply List.Mem.tail | apply List.mem_append_right))); exact put_ri _ _ _ _; (simp [rdr]); exact rfl; (focus (repeat (first | apply Upd.head | apply Upd.tail))); clear hR; intro w hR)
    | ((with_reducible apply wpList_put1 hR tBoolV); exact rfl; exact rfl; exact rfl; (focus (repeat (first | apply List.Mem.head | apply List.Mem.tail | apply List.mem_append_right))); exact put_pme _ _; (simp [encPt]); exact rfl; (focus (repeat (first | apply Upd.head | apply Upd.tail))); clear hR; intro w hR)
    | (go_at_call 54; refine (HD.out _ _ _ _ hR (by (focus (repeat (first | apply Del.head | apply Del.tail)))) (fun r hr => by cases hr with | head => exact (by (focus (repeat (first | apply List.Mem.head | apply List.Mem.tail | apply List.mem_append_right)))) | tail _ h => exact nomatch h)).mono ?_; rintro e w' ⟨rfl, v2, hS2, hO⟩; clear hR; have hR := hO; clear hO)
    | (go_at_call 58; refine (ansR_bad (mustE_any (s := outS s2) hS2 hR (by (focus (repeat (first | apply Del.head | apply Del.tail)))) oksEND) HU.out).mono ?_; rintro e w' ⟨rfl, hO⟩; clear hR; have hR := hO; clear hO)
    | ((with_reducible apply wpList_put hR tPart); exact rfl; exact rfl; exact rfl; (focus (repeat (first | apply List.Mem.head | apply List.Mem.tail | apply List.mem_append_right))); exact put_part _ _; exact rfl; exact Nat.le_refl 14; exact one_part _; (focus (repeat (first | apply Upd.head | apply Upd.tail))); clear hR; intro w hR)
    | ((with_reducible apply wpList_put hR tTok); exact rfl; exact rfl; exact rfl; (focus (repeat (first | apply List.Mem.head | apply List.Mem.tail | apply List.mem_append_right))); exact put_tok _ _; exact rfl; exact Nat.le_refl 4; exact one_tok _; (focus (repeat (first | apply Upd.head | apply Upd.tail))); clear hR; intro w hR))
      exact ⟨rfl, rfl, hR.drop (by (focus (repeat (with_reducible first | exact List.Sublist.slnil | exact List.nil_sublist _ | exact List.Sublist.refl _ | exact List.sublist_append_right _ _ | apply List.Sublist.cons_cons | apply List.Sublist.cons | apply sub_right))))⟩
    · exact (must_out hu).elim
  · have HD := Lib.hid (fun (gb : Nat) (w' : World) (X L' : List RowT) (hO : Own w0 w' L') (hd' : Del (gr, rdr v tb (inS s), 66) L' X) (hK' : ∀ r ∈ [(gb, ptrC gr, 84)], r ∈ X) => ansR_bad (HX.out gb (inS s) v w' L' X (by rw [hm]; trivial) hS hO hd' hK') hm)
    refine badR_ans ?_ rfl
    clear HX hm hS hgot
    go_enter Tryd.func92, Tryd.ntmps92
    go_wp2_with (first
    | ((with_reducible apply wpList_box1 hR); exact rfl; exact rfl; exact rfl; clear hR; intro gb w hR; simp only [cS, cZ])
    | ((with_reducible apply wpList_func); exact rfl; exact rfl; simp only [cS, cZ])
    | ((with_reducible apply wpList_box hR); exact rfl; exact rfl; clear hR; intro g w hR; simp only [cS, cZ])
    | ((with_reducible apply wpList_make hR zPart); exact rfl; clear hR; intro g w hR; simp only [cS, cZ])
    | ((with_reducible apply wpList_make hR zTok); exact rfl; clear hR; intro g w hR; simp only [cS, cZ])
    | ((with_reducible apply q_ls hR); exact rfl; ((with_reducible first | apply t_addr fPart3 | apply t_addr (fTok _ (by decide)) | apply t_addr fRdr4 | apply t_nilck | apply t_one tIntV | apply t_one tStrE | apply t_one tPtrE | apply t_part tPart) <;> (first | (focus (repeat (first | (apply EvC.gv; exact rfl; (with_reducible first | exact Imp.refl _ | (apply Imp.left; exact Imp.refl _) | (apply Imp.right; exact Imp.refl _) | (apply Imp.left; apply Imp.left; exact Imp.refl _))) | (apply EvC.now; exact rfl) | (with_reducible first | apply EvAll.cons | exact EvAll.nil))); done) | exact rfl | exact ext_part _ | (focus (repeat (first | apply List.Mem.head | apply List.Mem.tail | apply List.mem_append_right))))); (simp only [cS, cZ]; exact rfl); clear hR; intro w hR)
    | ((with_reducible apply q_ls hR); exact rfl; (with_reducible apply t_wordF lsOPEN oksOPEN hs H0.out); (apply EvC.now; exact rfl); (simp only [cS, cZ]; exact rfl); clear hR; intro w hR)
    | ((with_reducible apply q_ls hR); exact rfl; (with_reducible apply t_wordT lsIN oksIN hs H1.out); (apply EvC.now; exact rfl); (simp only [cS, cZ]; exact rfl); clear hR; intro w hR)
    | ((with_reducible apply wpList_put1 hR tIntV); exact rfl; exact rfl; exact rfl; (focus (repeat (first | apply List.Mem.head | apply List.Mem.tail | apply List.mem_append_right))); exact put_ri _ _ _ _; (simp [rdr]); exact rfl; (focus (repeat (first | apply Upd.head | apply Upd.tail))); clear hR; intro w hR)
    | ((with_reducible apply wpList_put1 hR tBoolV); exact rfl; exact rfl; exact rfl; (focus (repeat (first | apply List.Mem.head | apply List.Mem.tail | apply List.mem_append_right))); exact put_pme _ _; (simp [encPt]); exact rfl; (focus (repeat (first | apply Upd.head | apply Upd.tail))); clear hR; intro w hR)
    | (go_at_call 54; refine (HD.out _ _ _ _ hR (by (focus (repeat (first | apply Del.head | apply Del.tail)))) (fun r hr => by cases hr with | head => exact (by (focus (repeat (first | apply List.Mem.head | apply List.Mem.tail | apply List.mem_append_right)))) | tail _ h => exact nomatch h)).mono ?_; rintro e w' ⟨rfl, hO⟩; clear hR; have hR := hO; clear hO))
    exact ⟨rfl, rfl, hR.drop (by (focus (repeat (with_reducible first | exact List.Sublist.slnil | exact List.nil_sublist _ | exact List.Sublist.refl _ | exact List.sublist_append_right _ _ | apply List.Sublist.cons_cons | apply List.Sublist.cons | apply sub_right))))⟩
  · exfalso; rw [hm] at hgot; exact hgot
theorem brackE_any {w0 : World} {gr : Nat} {tb : TabZ} {ex : St → Rs PartZ} (hF : RdOk w0 gr tb [] 29 #[.pointer (some ⟨gr, 0, none⟩), .int .i64 1] ex) {a : List Int} (hs : bytesOk a) :
    RdOk w0 gr tb [] 92 #[.pointer (some ⟨gr, 0, none⟩), .string (strOfNums a)] (fun s => bracketM ex s a) := by
  unfold bracketM
  by_cases h0 : a = sOPEN
  · simp only [if_pos h0]
    exact parenE_any hF hs h0
  simp only [if_neg h0]
  by_cases h1 : a = sIN
  · simp only [if_pos h1]
    exact indexE_any hF hs h0 h1
  simp only [if_neg h1]
  intro s v w L R hgot hS hO hd hK
  have hR := hO.lead hd
  have H0 := Lib.hid h0
  have H1 := Lib.hid h1
  clear hO hd hK h0 h1 hgot hF hS
  refine badR_ans ?_ rfl
  go_enter Tryd.func92, Tryd.ntmps92
  go_wp2_with (first
    | ((with_reducible apply wpList_box1 hR); exact rfl; exact rfl; exact rfl; clear hR; intro gb w hR; simp only [cS, cZ])
    | ((with_reducible apply wpList_func); exact rfl; exact rfl; simp only [cS, cZ])
    | ((with_reducible apply wpList_box hR); exact rfl; exact rfl; clear hR; intro g w hR; simp only [cS, cZ])
    | ((with_reducible apply wpList_make hR zPart); exact rfl; clear hR; intro g w hR; simp only [cS, cZ])
    | ((with_reducible apply wpList_make hR zTok); exact rfl; clear hR; intro g w hR; simp only [cS, cZ])
    | ((with_reducible apply q_ls hR); exact rfl; ((with_reducible first | apply t_addr fPart3 | apply t_addr (fTok _ (by decide)) | apply t_addr fRdr4 | apply t_nilck | apply t_one tIntV | apply t_one tStrE | apply t_one tPtrE | apply t_part tPart) <;> (first | (focus (repeat (first | (apply EvC.gv; exact rfl; (with_reducible first | exact Imp.refl _ | (apply Imp.left; exact Imp.refl _) | (apply Imp.right; exact Imp.refl _) | (apply Imp.left; apply Imp.left; exact Imp.refl _))) | (apply EvC.now; exact rfl) | (with_reducible first | apply EvAll.cons | exact EvAll.nil))); done) | exact rfl | exact ext_part _ | (focus (repeat (first | apply List.Mem.head | apply List.Mem.tail | apply List.mem_append_right))))); (simp only [cS, cZ]; exact rfl); clear hR; intro w hR)
    | ((with_reducible apply q_ls hR); exact rfl; (with_reducible apply t_wordF lsOPEN oksOPEN hs H0.out); (apply EvC.now; exact rfl); (simp only [cS, cZ]; exact rfl); clear hR; intro w hR)
    | ((with_reducible apply q_ls hR); exact rfl; (with_reducible apply t_wordF lsIN oksIN hs H1.out); (apply EvC.now; exact rfl); (simp only [cS, cZ]; exact rfl); clear hR; intro w hR))
  exact ⟨rfl, rfl, hR.drop (by (focus (repeat (with_reducible first | exact List.Sublist.slnil | exact List.nil_sublist _ | exact List.Sublist.refl _ | exact List.sublist_append_right _ _ | apply List.Sublist.cons_cons | apply List.Sublist.cons | apply sub_right))))⟩
/-! ### One without anything behind it -/
theorem tU64E : OneTy Tryd.prog 57 := .of Tryd.underlying57 rfl (by kernel_rfl)
theorem take_cons (t : TokZ) (r : List TokZ) (d m i : Int) : takeM ⟨t :: r, d, m, i⟩ = .ok t ⟨r, d, m, i⟩ := rfl
set_option maxHeartbeats 8000000 in
theorem firstE_any {w0 : World} (hT : Tabs w0) {gr : Nat} {tb : TabZ} (hB : TabIn w0 tb) {ex : St → Rs PartZ} (hF : RdOk w0 gr tb [] 29 #[.pointer (some ⟨gr, 0, none⟩), .int .i64 1] ex) :
    RdOk w0 gr tb [] 78 #[.pointer (some ⟨gr, 0, none⟩)] (firstM tb ex) := by
  intro s v w L R hgot hS hO hd hK
  have hR := hO.lead hd
  clear hO hd hK
  obtain ⟨l, d, m, i⟩ := s
  rcases l with _ | ⟨t, r⟩
  · refine badR_ans ?_ (show firstM tb ex ⟨[], d, m, i⟩ = .bad 3 from rfl)
    go_enter Tryd.func78, Tryd.ntmps78
    go_wp2_with (first
    | ((with_reducible apply wpList_box hR); exact rfl; exact rfl; clear hR; intro g w hR; simp only [cS, cZ])
    | ((with_reducible apply wpList_make hR zPart); exact rfl; clear hR; intro g w hR; simp only [cS, cZ])
    | ((with_reducible apply wpList_make hR zTok); exact rfl; clear hR; intro g w hR; simp only [cS, cZ])
    | ((with_reducible apply q_ls hR); exact rfl; ((with_reducible first | apply t_addr fPart3 | apply t_addr (fTok _ (by decide)) | apply t_addr fRdr4 | apply t_nilck | apply t_one tIntV | apply t_one tStrE | apply t_one tPtrE | apply t_part tPart) <;> (first | (focus (repeat (first | (apply EvC.gv; exact rfl; (with_reducible first | exact Imp.refl _ | (apply Imp.left; exact Imp.refl _) | (apply Imp.right; exact Imp.refl _) | (apply Imp.left; apply Imp.left; exact Imp.refl _))) | (apply EvC.now; exact rfl) | (with_reducible first | apply EvAll.cons | exact EvAll.nil))); done) | exact rfl | exact ext_part _ | (focus (repeat (first | apply List.Mem.head | apply List.Mem.tail | apply List.mem_append_right))))); (simp only [cS, cZ]; exact rfl); clear hR; intro w hR)
    | (go_at_call 43; refine (ansR_bad (takeE_any hS hR (by (focus (repeat (first | apply Del.head | apply Del.tail))))) (show takeM ⟨[], d, m, i⟩ = .bad 3 from rfl)).mono ?_; rintro e w' ⟨rfl, hO⟩; clear hR; have hR := hO; clear hO))
    exact ⟨rfl, rfl, hR.drop (by (focus (repeat (with_reducible first | exact List.Sublist.slnil | exact List.nil_sublist _ | exact List.Sublist.refl _ | exact List.sublist_append_right _ _ | apply List.Sublist.cons_cons | apply List.Sublist.cons | apply sub_right))))⟩
  have hs := hS.ok t (.head _)
  rw [show firstM tb ex ⟨t :: r, d, m, i⟩ = firstT tb ex t ⟨r, d, m, i⟩ from rfl] at hgot ⊢
  unfold firstT at hgot ⊢
  by_cases h2 : t.k = 2
  · rw [if_pos h2]
    refine okR_ans ?_ rfl
    obtain ⟨q, hq⟩ : ∃ q, IntKind.i64.wrap (t.n : Int) = q := ⟨_, rfl⟩
    rw [hq]
    have HQ := Lib.hid hq
    clear hq
    have H2 := Lib.hid (show cmpB .eql t.k 2 = some true by rw [h2]; rfl)
    clear h2 hgot
    go_enter Tryd.func78, Tryd.ntmps78
    go_wp2_with (first
    | ((with_reducible apply wpList_box hR); exact rfl; exact rfl; clear hR; intro g w hR; simp only [cS, cZ])
    | ((with_reducible apply wpList_make hR zPart); exact rfl; clear hR; intro g w hR; simp only [cS, cZ])
    | ((with_reducible apply wpList_make hR zTok); exact rfl; clear hR; intro g w hR; simp only [cS, cZ])
    | ((with_reducible apply q_ls hR); exact rfl; ((with_reducible first | apply t_addr fPart3 | apply t_addr (fTok _ (by decide)) | apply t_addr fRdr4 | apply t_nilck | apply t_one tIntV | apply t_one tStrE | apply t_one tPtrE | apply t_part tPart) <;> (first | (focus (repeat (first | (apply EvC.gv; exact rfl; (with_reducible first | exact Imp.refl _ | (apply Imp.left; exact Imp.refl _) | (apply Imp.right; exact Imp.refl _) | (apply Imp.left; apply Imp.left; exact Imp.refl _))) | (apply EvC.now; exact rfl) | (with_reducible first | apply EvAll.cons | exact EvAll.nil))); done) | exact rfl | exact ext_part _ | (focus (repeat (first | apply List.Mem.head | apply List.Mem.tail | apply List.mem_append_right))))); (simp only [cS, cZ]; exact rfl); clear hR; intro w hR)
    | (go_at_call 43; refine (ansR_ok (takeE_any hS hR (by (focus (repeat (first | apply Del.head | apply Del.tail))))) (take_cons _ _ _ _ _)).mono ?_; rintro e w' ⟨rfl, v1, hS1, hO⟩; clear hR; have hR := hO; clear hO)
    | ((with_reducible apply q_ls hR); exact rfl; (with_reducible apply t_cmp (op := .eql)); (apply EvC.now; exact rfl); (apply EvC.now; exact rfl); (exact H2.out); (simp only [cS, cZ]; exact rfl); clear hR; intro w hR)
    | ((with_reducible apply q_ls hR); exact rfl; (with_reducible apply t_one tU64E); (apply EvC.now; exact rfl); (focus (repeat (first | apply List.Mem.head | apply List.Mem.tail | apply List.mem_append_right))); exact rfl; (simp only [cS, cZ]; exact rfl); clear hR; intro w hR)
    | ((with_reducible apply q_ls hR); exact rfl; (with_reducible apply t_conv Tryd.underlying57 Tryd.underlying3); (apply EvC.now; exact rfl); exact HQ.out; (simp only [cS, cZ]; exact rfl); clear hR; intro w hR)
    | (go_at_call 76; refine (numV_any _ _).mono ?_; rintro e w' ⟨rfl, hb⟩; replace hR := hR.grow hb; clear hb)
    | ((with_reducible apply wpList_built); exact rfl; exact rfl; exact bValP _; (simp only [cS, cZ]; exact rfl))
    | ((with_reducible apply wpList_put hR tPart); exact rfl; exact rfl; exact rfl; (focus (repeat (first | apply List.Mem.head | apply List.Mem.tail | apply List.mem_append_right))); exact put_part _ _; exact rfl; exact Nat.le_refl 14; exact one_part _; (focus (repeat (first | apply Upd.head | apply Upd.tail))); clear hR; intro w hR)
    | ((with_reducible apply wpList_put hR tTok); exact rfl; exact rfl; exact rfl; (focus (repeat (first | apply List.Mem.head | apply List.Mem.tail | apply List.mem_append_right))); exact put_tok _ _; exact rfl; exact Nat.le_refl 4; exact one_tok _; (focus (repeat (first | apply Upd.head | apply Upd.tail))); clear hR; intro w hR))
    (try simp only [Exit.inBlock, Exit.then])
    exact post_row hR rfl (by rfl) (by (focus (repeat (first | apply List.Mem.head | apply List.Mem.tail | apply List.mem_append_right)))) Tryd.underlying69 rfl iPart (by rfl) (by rfl) ⟨rfl, _, hS1, (hR.lead (by (focus (repeat (first | apply Del.head | apply Del.tail))))).drop (List.Sublist.cons_cons _ (by (focus (repeat (with_reducible first | exact List.Sublist.slnil | exact List.nil_sublist _ | exact List.Sublist.refl _ | exact List.sublist_append_right _ _ | apply List.Sublist.cons_cons | apply List.Sublist.cons | apply sub_right)))))⟩
  rw [if_neg h2] at hgot ⊢
  have H2 := Lib.hid (show cmpB .eql t.k 2 = some false from congrArg some (decide_eq_false h2))
  clear h2
  by_cases h3 : t.k = 3
  · rw [if_pos h3]
    have H3 := Lib.hid (show cmpB .eql t.k 3 = some true by rw [h3]; rfl)
    clear h3 hgot
    cases hl : (decide (t.s.length = 1) || decide (t.s.length = 2))
    · rw [cond_false]
      refine badR_ans ?_ rfl
      have HL := Lib.hid (show lettersO t.s = none by unfold lettersO; rw [hl]; rfl)
      clear hl
      go_enter Tryd.func78, Tryd.ntmps78
      go_wp2_with (first
    | ((with_reducible apply wpList_box hR); exact rfl; exact rfl; clear hR; intro g w hR; simp only [cS, cZ])
    | ((with_reducible apply wpList_make hR zPart); exact rfl; clear hR; intro g w hR; simp only [cS, cZ])
    | ((with_reducible apply wpList_make hR zTok); exact rfl; clear hR; intro g w hR; simp only [cS, cZ])
    | ((with_reducible apply q_ls hR); exact rfl; ((with_reducible first | apply t_addr fPart3 | apply t_addr (fTok _ (by decide)) | apply t_addr fRdr4 | apply t_nilck | apply t_one tIntV | apply t_one tStrE | apply t_one tPtrE | apply t_part tPart) <;> (first | (focus (repeat (first | (apply EvC.gv; exact rfl; (with_reducible first | exact Imp.refl _ | (apply Imp.left; exact Imp.refl _) | (apply Imp.right; exact Imp.refl _) | (apply Imp.left; apply Imp.left; exact Imp.refl _))) | (apply EvC.now; exact rfl) | (with_reducible first | apply EvAll.cons | exact EvAll.nil))); done) | exact rfl | exact ext_part _ | (focus (repeat (first | apply List.Mem.head | apply List.Mem.tail | apply List.mem_append_right))))); (simp only [cS, cZ]; exact rfl); clear hR; intro w hR)
    | (go_at_call 43; refine (ansR_ok (takeE_any hS hR (by (focus (repeat (first | apply Del.head | apply Del.tail))))) (take_cons _ _ _ _ _)).mono ?_; rintro e w' ⟨rfl, v1, hS1, hO⟩; clear hR; have hR := hO; clear hO)
    | ((with_reducible apply q_ls hR); exact rfl; (with_reducible apply t_cmp (op := .eql)); (apply EvC.now; exact rfl); (apply EvC.now; exact rfl); (first | exact H2.out | exact H3.out); (simp only [cS, cZ]; exact rfl); clear hR; intro w hR)
    | (go_at_call 90; refine (ansO_bad (lettersE_any hs _) HL.out).mono ?_; rintro e w' ⟨rfl, hb⟩; replace hR := hR.grow hb; clear hb)
    | ((with_reducible apply wpList_put hR tPart); exact rfl; exact rfl; exact rfl; (focus (repeat (first | apply List.Mem.head | apply List.Mem.tail | apply List.mem_append_right))); exact put_part _ _; exact rfl; exact Nat.le_refl 14; exact one_part _; (focus (repeat (first | apply Upd.head | apply Upd.tail))); clear hR; intro w hR)
    | ((with_reducible apply wpList_put hR tTok); exact rfl; exact rfl; exact rfl; (focus (repeat (first | apply List.Mem.head | apply List.Mem.tail | apply List.mem_append_right))); exact put_tok _ _; exact rfl; exact Nat.le_refl 4; exact one_tok _; (focus (repeat (first | apply Upd.head | apply Upd.tail))); clear hR; intro w hR))
      exact ⟨rfl, rfl, hR.drop (by (focus (repeat (with_reducible first | exact List.Sublist.slnil | exact List.nil_sublist _ | exact List.Sublist.refl _ | exact List.sublist_append_right _ _ | apply List.Sublist.cons_cons | apply List.Sublist.cons | apply sub_right))))⟩
    · rw [cond_true]
      refine okR_ans ?_ rfl
      have HL := Lib.hid (show lettersO t.s = some (lettersZ t.s) by unfold lettersO; rw [hl]; rfl)
      clear hl
      go_enter Tryd.func78, Tryd.ntmps78
      go_wp2_with (first
    | ((with_reducible apply wpList_box hR); exact rfl; exact rfl; clear hR; intro g w hR; simp only [cS, cZ])
    | ((with_reducible apply wpList_make hR zPart); exact rfl; clear hR; intro g w hR; simp only [cS, cZ])
    | ((with_reducible apply wpList_make hR zTok); exact rfl; clear hR; intro g w hR; simp only [cS, cZ])
    | ((with_reducible apply q_ls hR); exact rfl; ((with_reducible first | apply t_addr fPart3 | apply t_addr (fTok _ (by decide)) | apply t_addr fRdr4 | apply t_nilck | apply t_one tIntV | apply t_one tStrE | apply t_one tPtrE | apply t_part tPart) <;> (first | (focus (repeat (first | (apply EvC.gv; exact rfl; (with_reducible first | exact Imp.refl _ | (apply Imp.left; exact Imp.refl _) | (apply Imp.right; exact Imp.refl _) | (apply Imp.left; apply Imp.left; exact Imp.refl _))) | (apply EvC.now; exact rfl) | (with_reducible first | apply EvAll.cons | exact EvAll.nil))); done) | exact rfl | exact ext_part _ | (focus (repeat (first | apply List.Mem.head | apply List.Mem.tail | apply List.mem_append_right))))); (simp only [cS, cZ]; exact rfl); clear hR; intro w hR)
    | (go_at_call 43; refine (ansR_ok (takeE_any hS hR (by (focus (repeat (first | apply Del.head | apply Del.tail))))) (take_cons _ _ _ _ _)).mono ?_; rintro e w' ⟨rfl, v1, hS1, hO⟩; clear hR; have hR := hO; clear hO)
    | ((with_reducible apply q_ls hR); exact rfl; (with_reducible apply t_cmp (op := .eql)); (apply EvC.now; exact rfl); (apply EvC.now; exact rfl); (first | exact H2.out | exact H3.out); (simp only [cS, cZ]; exact rfl); clear hR; intro w hR)
    | (go_at_call 90; refine (ansO_ok (lettersE_any hs _) HL.out).mono ?_; rintro e w' ⟨rfl, hb⟩; replace hR := hR.grow hb; clear hb)
    | (go_at_call 76; refine (numV_any _ _).mono ?_; rintro e w' ⟨rfl, hb⟩; replace hR := hR.grow hb; clear hb)
    | ((with_reducible apply wpList_built); exact rfl; exact rfl; exact bValP _; (simp only [cS, cZ]; exact rfl))
    | ((with_reducible apply wpList_put hR tPart); exact rfl; exact rfl; exact rfl; (focus (repeat (first | apply List.Mem.head | apply List.Mem.tail | apply List.mem_append_right))); exact put_part _ _; exact rfl; exact Nat.le_refl 14; exact one_part _; (focus (repeat (first | apply Upd.head | apply Upd.tail))); clear hR; intro w hR)
    | ((with_reducible apply wpList_put hR tTok); exact rfl; exact rfl; exact rfl; (focus (repeat (first | apply List.Mem.head | apply List.Mem.tail | apply List.mem_append_right))); exact put_tok _ _; exact rfl; exact Nat.le_refl 4; exact one_tok _; (focus (repeat (first | apply Upd.head | apply Upd.tail))); clear hR; intro w hR))
      (try simp only [Exit.inBlock, Exit.then])
      exact post_row hR rfl (by rfl) (by (focus (repeat (first | apply List.Mem.head | apply List.Mem.tail | apply List.mem_append_right)))) Tryd.underlying69 rfl iPart (by rfl) (by rfl) ⟨rfl, _, hS1, (hR.lead (by (focus (repeat (first | apply Del.head | apply Del.tail))))).drop (List.Sublist.cons_cons _ (by (focus (repeat (with_reducible first | exact List.Sublist.slnil | exact List.nil_sublist _ | exact List.Sublist.refl _ | exact List.sublist_append_right _ _ | apply List.Sublist.cons_cons | apply List.Sublist.cons | apply sub_right)))))⟩
  rw [if_neg h3] at hgot ⊢
  have H3 := Lib.hid (show cmpB .eql t.k 3 = some false from congrArg some (decide_eq_false h3))
  clear h3
  by_cases h1 : t.k = 1
  · rw [if_pos h1]
    have H1 := Lib.hid (show cmpB .eql t.k 1 = some true by rw [h1]; rfl)
    clear h1 hgot
    cases hn : namedZ' tb (decide (0 < i)) t.s with
    | none =>
      refine badR_ans ?_ rfl
      have HN := Lib.hid hn
      clear hn
      go_enter Tryd.func78, Tryd.ntmps78
      go_wp2_with (first
    | ((with_reducible apply wpList_box hR); exact rfl; exact rfl; clear hR; intro g w hR; simp only [cS, cZ])
    | ((with_reducible apply wpList_make hR zPart); exact rfl; clear hR; intro g w hR; simp only [cS, cZ])
    | ((with_reducible apply wpList_make hR zTok); exact rfl; clear hR; intro g w hR; simp only [cS, cZ])
    | ((with_reducible apply q_ls hR); exact rfl; ((with_reducible first | apply t_addr fPart3 | apply t_addr (fTok _ (by decide)) | apply t_addr fRdr4 | apply t_nilck | apply t_one tIntV | apply t_one tStrE | apply t_one tPtrE | apply t_part tPart) <;> (first | (focus (repeat (first | (apply EvC.gv; exact rfl; (with_reducible first | exact Imp.refl _ | (apply Imp.left; exact Imp.refl _) | (apply Imp.right; exact Imp.refl _) | (apply Imp.left; apply Imp.left; exact Imp.refl _))) | (apply EvC.now; exact rfl) | (with_reducible first | apply EvAll.cons | exact EvAll.nil))); done) | exact rfl | exact ext_part _ | (focus (repeat (first | apply List.Mem.head | apply List.Mem.tail | apply List.mem_append_right))))); (simp only [cS, cZ]; exact rfl); clear hR; intro w hR)
    | (go_at_call 43; refine (ansR_ok (takeE_any hS hR (by (focus (repeat (first | apply Del.head | apply Del.tail))))) (take_cons _ _ _ _ _)).mono ?_; rintro e w' ⟨rfl, v1, hS1, hO⟩; clear hR; have hR := hO; clear hO)
    | ((with_reducible apply q_ls hR); exact rfl; (with_reducible apply t_cmp (op := .eql)); (apply EvC.now; exact rfl); (apply EvC.now; exact rfl); (first | exact H2.out | exact H3.out | exact H1.out); (simp only [cS, cZ]; exact rfl); clear hR; intro w hR)
    | (go_at_call 91; refine (ansO_bad (namedE_any (s := ⟨r, d, m, i⟩) (hT.own hR) (hR.get (by (focus (repeat (first | apply List.Mem.head | apply List.Mem.tail | apply List.mem_append_right))))) (hB.own hR) hs) HN.out).mono ?_; rintro e w' ⟨rfl, hb⟩; replace hR := hR.grow hb; clear hb)
    | ((with_reducible apply wpList_put hR tPart); exact rfl; exact rfl; exact rfl; (focus (repeat (first | apply List.Mem.head | apply List.Mem.tail | apply List.mem_append_right))); exact put_part _ _; exact rfl; exact Nat.le_refl 14; exact one_part _; (focus (repeat (first | apply Upd.head | apply Upd.tail))); clear hR; intro w hR)
    | ((with_reducible apply wpList_put hR tTok); exact rfl; exact rfl; exact rfl; (focus (repeat (first | apply List.Mem.head | apply List.Mem.tail | apply List.mem_append_right))); exact put_tok _ _; exact rfl; exact Nat.le_refl 4; exact one_tok _; (focus (repeat (first | apply Upd.head | apply Upd.tail))); clear hR; intro w hR))
      exact ⟨rfl, rfl, hR.drop (by (focus (repeat (with_reducible first | exact List.Sublist.slnil | exact List.nil_sublist _ | exact List.Sublist.refl _ | exact List.sublist_append_right _ _ | apply List.Sublist.cons_cons | apply List.Sublist.cons | apply sub_right))))⟩
    | some p =>
      refine okR_ans ?_ rfl
      have HN := Lib.hid hn
      clear hn
      go_enter Tryd.func78, Tryd.ntmps78
      go_wp2_with (first
    | ((with_reducible apply wpList_box hR); exact rfl; exact rfl; clear hR; intro g w hR; simp only [cS, cZ])
    | ((with_reducible apply wpList_make hR zPart); exact rfl; clear hR; intro g w hR; simp only [cS, cZ])
    | ((with_reducible apply wpList_make hR zTok); exact rfl; clear hR; intro g w hR; simp only [cS, cZ])
    | ((with_reducible apply q_ls hR); exact rfl; ((with_reducible first | apply t_addr fPart3 | apply t_addr (fTok _ (by decide)) | apply t_addr fRdr4 | apply t_nilck | apply t_one tIntV | apply t_one tStrE | apply t_one tPtrE | apply t_part tPart) <;> (first | (focus (repeat (first | (apply EvC.gv; exact rfl; (with_reducible first | exact Imp.refl _ | (apply Imp.left; exact Imp.refl _) | (apply Imp.right; exact Imp.refl _) | (apply Imp.left; apply Imp.left; exact Imp.refl _))) | (apply EvC.now; exact rfl) | (with_reducible first | apply EvAll.cons | exact EvAll.nil))); done) | exact rfl | exact ext_part _ | (focus (repeat (first | apply List.Mem.head | apply List.Mem.tail | apply List.mem_append_right))))); (simp only [cS, cZ]; exact rfl); clear hR; intro w hR)
    | (go_at_call 43; refine (ansR_ok (takeE_any hS hR (by (focus (repeat (first | apply Del.head | apply Del.tail))))) (take_cons _ _ _ _ _)).mono ?_; rintro e w' ⟨rfl, v1, hS1, hO⟩; clear hR; have hR := hO; clear hO)
    | ((with_reducible apply q_ls hR); exact rfl; (with_reducible apply t_cmp (op := .eql)); (apply EvC.now; exact rfl); (apply EvC.now; exact rfl); (first | exact H2.out | exact H3.out | exact H1.out); (simp only [cS, cZ]; exact rfl); clear hR; intro w hR)
    | (go_at_call 91; refine (ansO_ok (namedE_any (s := ⟨r, d, m, i⟩) (hT.own hR) (hR.get (by (focus (repeat (first | apply List.Mem.head | apply List.Mem.tail | apply List.mem_append_right))))) (hB.own hR) hs) HN.out).mono ?_; rintro e w' ⟨rfl, hb⟩; replace hR := hR.grow hb; clear hb)
    | ((with_reducible apply wpList_put hR tPart); exact rfl; exact rfl; exact rfl; (focus (repeat (first | apply List.Mem.head | apply List.Mem.tail | apply List.mem_append_right))); exact put_part _ _; exact rfl; exact Nat.le_refl 14; exact one_part _; (focus (repeat (first | apply Upd.head | apply Upd.tail))); clear hR; intro w hR)
    | ((with_reducible apply wpList_put hR tTok); exact rfl; exact rfl; exact rfl; (focus (repeat (first | apply List.Mem.head | apply List.Mem.tail | apply List.mem_append_right))); exact put_tok _ _; exact rfl; exact Nat.le_refl 4; exact one_tok _; (focus (repeat (first | apply Upd.head | apply Upd.tail))); clear hR; intro w hR))
      (try simp only [Exit.inBlock, Exit.then])
      exact post_row hR rfl (by rfl) (by (focus (repeat (first | apply List.Mem.head | apply List.Mem.tail | apply List.mem_append_right)))) Tryd.underlying69 rfl iPart (by rfl) (by rfl) ⟨rfl, _, hS1, (hR.lead (by (focus (repeat (first | apply Del.head | apply Del.tail))))).drop (List.Sublist.cons_cons _ (by (focus (repeat (with_reducible first | exact List.Sublist.slnil | exact List.nil_sublist _ | exact List.Sublist.refl _ | exact List.sublist_append_right _ _ | apply List.Sublist.cons_cons | apply List.Sublist.cons | apply sub_right)))))⟩
  rw [if_neg h1] at hgot ⊢
  have H1 := Lib.hid (show cmpB .eql t.k 1 = some false from congrArg some (decide_eq_false h1))
  clear h1
  by_cases h4 : t.k = 4
  · rw [if_pos h4] at hgot ⊢
    have H4 := Lib.hid (show cmpB .eql t.k 4 = some true by rw [h4]; rfl)
    clear h4
    have HX := Lib.hid (brackE_any hF hs)
    rcases hm : bracketM ex ⟨r, d, m, i⟩ t.s with ⟨p, s2⟩ | e | _
    · refine okR_ans ?_ rfl
      have HM := Lib.hid hm
      clear hm hgot
      go_enter Tryd.func78, Tryd.ntmps78
      go_wp2_with (first
    | ((with_reducible apply wpList_box hR); exact rfl; exact rfl; clear hR; intro g w hR; simp only [cS, cZ])
    | ((with_reducible apply wpList_make hR zPart); exact rfl; clear hR; intro g w hR; simp only [cS, cZ])
    | ((with_reducible apply wpList_make hR zTok); exact rfl; clear hR; intro g w hR; simp only [cS, cZ])
    | ((with_reducible apply q_ls hR); exact rfl; ((with_reducible first | apply t_addr fPart3 | apply t_addr (fTok _ (by decide)) | apply t_addr fRdr4 | apply t_nilck | apply t_one tIntV | apply t_one tStrE | apply t_one tPtrE | apply t_part tPart) <;> (first | (focus (repeat (first | (apply EvC.gv; exact rfl; (with_reducible first | exact Imp.refl _ | (apply Imp.left; exact Imp.refl _) | (apply Imp.right; exact Imp.refl _) | (apply Imp.left; apply Imp.left; exact Imp.refl _))) | (apply EvC.now; exact rfl) | (with_reducible first | apply EvAll.cons | exact EvAll.nil))); done) | exact rfl | exact ext_part _ | (focus (repeat (first | apply List.Mem.head | apply List.Mem.tail | apply List.mem_append_right))))); (simp only [cS, cZ]; exact rfl); clear hR; intro w hR)
    | (go_at_call 43; refine (ansR_ok (takeE_any hS hR (by (focus (repeat (first | apply Del.head | apply Del.tail))))) (take_cons _ _ _ _ _)).mono ?_; rintro e w' ⟨rfl, v1, hS1, hO⟩; clear hR; have hR := hO; clear hO)
    | ((with_reducible apply q_ls hR); exact rfl; (with_reducible apply t_cmp (op := .eql)); (apply EvC.now; exact rfl); (apply EvC.now; exact rfl); (first | exact H2.out | exact H3.out | exact H1.out | exact H4.out); (simp only [cS, cZ]; exact rfl); clear hR; intro w hR)
    | (go_at_call 92; refine (ansR_ok (HX.out ⟨r, d, m, i⟩ v1 _ _ _ (by simp only [HM.out]; trivial) hS1 hR (by (focus (repeat (first | apply Del.head | apply Del.tail)))) (fun _ h => nomatch h)) HM.out).mono ?_; rintro e w' ⟨rfl, v2, hS2, hO⟩; clear hR; have hR := hO; clear hO)
    | ((with_reducible apply wpList_put hR tPart); exact rfl; exact rfl; exact rfl; (focus (repeat (first | apply List.Mem.head | apply List.Mem.tail | apply List.mem_append_right))); exact put_part _ _; exact rfl; exact Nat.le_refl 14; exact one_part _; (focus (repeat (first | apply Upd.head | apply Upd.tail))); clear hR; intro w hR)
    | ((with_reducible apply wpList_put hR tTok); exact rfl; exact rfl; exact rfl; (focus (repeat (first | apply List.Mem.head | apply List.Mem.tail | apply List.mem_append_right))); exact put_tok _ _; exact rfl; exact Nat.le_refl 4; exact one_tok _; (focus (repeat (first | apply Upd.head | apply Upd.tail))); clear hR; intro w hR))
      (try simp only [Exit.inBlock, Exit.then])
      exact post_row hR rfl (by rfl) (by (focus (repeat (first | apply List.Mem.head | apply List.Mem.tail | apply List.mem_append_right)))) Tryd.underlying69 rfl iPart (by rfl) (by rfl) ⟨rfl, _, hS2, (hR.lead (by (focus (repeat (first | apply Del.head | apply Del.tail))))).drop (List.Sublist.cons_cons _ (by (focus (repeat (with_reducible first | exact List.Sublist.slnil | exact List.nil_sublist _ | exact List.Sublist.refl _ | exact List.sublist_append_right _ _ | apply List.Sublist.cons_cons | apply List.Sublist.cons | apply sub_right)))))⟩
    · refine badR_ans ?_ rfl
      have HM := Lib.hid hm
      clear hm hgot
      go_enter Tryd.func78, Tryd.ntmps78
      go_wp2_with (first
    | ((with_reducible apply wpList_box hR); exact rfl; exact rfl; clear hR; intro g w hR; simp only [cS, cZ])
    | ((with_reducible apply wpList_make hR zPart); exact rfl; clear hR; intro g w hR; simp only [cS, cZ])
    | ((with_reducible apply wpList_make hR zTok); exact rfl; clear hR; intro g w hR; simp only [cS, cZ])
    | ((with_reducible apply q_ls hR); exact rfl; ((with_reducible first | apply t_addr fPart3 | apply t_addr (fTok _ (by decide)) | apply t_addr fRdr4 | apply t_nilck | apply t_one tIntV | apply t_one tStrE | apply t_one tPtrE | apply t_part tPart) <;> (first | (focus (repeat (first | (apply EvC.gv; exact rfl; (with_reducible first | exact Imp.refl _ | (apply Imp.left; exact Imp.refl _) | (apply Imp.right; exact Imp.refl _) | (apply Imp.left; apply Imp.left; exact Imp.refl _))) | (apply EvC.now; exact rfl) | (with_reducible first | apply EvAll.cons | exact EvAll.nil))); done) | exact rfl | exact ext_part _ | (focus (repeat (first | apply List.Mem.head | apply List.Mem.tail | apply List.mem_append_right))))); (simp only [cS, cZ]; exact rfl); clear hR; intro w hR)
    | (go_at_call 43; refine (ansR_ok (takeE_any hS hR (by (focus (repeat (first | apply Del.head | apply Del.tail))))) (take_cons _ _ _ _ _)).mono ?_; rintro e w' ⟨rfl, v1, hS1, hO⟩; clear hR; have hR := hO; clear hO)
    | ((with_reducible apply q_ls hR); exact rfl; (with_reducible apply t_cmp (op := .eql)); (apply EvC.now; exact rfl); (apply EvC.now; exact rfl); (first | exact H2.out | exact H3.out | exact H1.out | exact H4.out); (simp only [cS, cZ]; exact rfl); clear hR; intro w hR)
    | (go_at_call 92; refine (ansR_bad (HX.out ⟨r, d, m, i⟩ v1 _ _ _ (by simp only [HM.out]; trivial) hS1 hR (by (focus (repeat (first | apply Del.head | apply Del.tail)))) (fun _ h => nomatch h)) HM.out).mono ?_; rintro e w' ⟨rfl, hO⟩; clear hR; have hR := hO; clear hO)
    | ((with_reducible apply wpList_put hR tPart); exact rfl; exact rfl; exact rfl; (focus (repeat (first | apply List.Mem.head | apply List.Mem.tail | apply List.mem_append_right))); exact put_part _ _; exact rfl; exact Nat.le_refl 14; exact one_part _; (focus (repeat (first | apply Upd.head | apply Upd.tail))); clear hR; intro w hR)
    | ((with_reducible apply wpList_put hR tTok); exact rfl; exact rfl; exact rfl; (focus (repeat (first | apply List.Mem.head | apply List.Mem.tail | apply List.mem_append_right))); exact put_tok _ _; exact rfl; exact Nat.le_refl 4; exact one_tok _; (focus (repeat (first | apply Upd.head | apply Upd.tail))); clear hR; intro w hR))
      exact ⟨rfl, rfl, hR.drop (by (focus (repeat (with_reducible first | exact List.Sublist.slnil | exact List.nil_sublist _ | exact List.Sublist.refl _ | exact List.sublist_append_right _ _ | apply List.Sublist.cons_cons | apply List.Sublist.cons | apply sub_right))))⟩
    · exfalso; rw [hm] at hgot; exact hgot
  rw [if_neg h4] at hgot ⊢
  have H4 := Lib.hid (show cmpB .eql t.k 4 = some false from congrArg some (decide_eq_false h4))
  clear h4 hgot
  refine badR_ans ?_ rfl
  go_enter Tryd.func78, Tryd.ntmps78
  go_wp2_with (first
    | ((with_reducible apply wpList_box hR); exact rfl; exact rfl; clear hR; intro g w hR; simp only [cS, cZ])
    | ((with_reducible apply wpList_make hR zPart); exact rfl; clear hR; intro g w hR; simp only [cS, cZ])
    | ((with_reducible apply wpList_make hR zTok); exact rfl; clear hR; intro g w hR; simp only [cS, cZ])
    | ((with_reducible apply q_ls hR); exact rfl; ((with_reducible first | apply t_addr fPart3 | apply t_addr (fTok _ (by decide)) | apply t_addr fRdr4 | apply t_nilck | apply t_one tIntV | apply t_one tStrE | apply t_one tPtrE | apply t_part tPart) <;> (first | (focus (repeat (first | (apply EvC.gv; exact rfl; (with_reducible first | exact Imp.refl _ | (apply Imp.left; exact Imp.refl _) | (apply Imp.right; exact Imp.refl _) | (apply Imp.left; apply Imp.left; exact Imp.refl _))) | (apply EvC.now; exact rfl) | (with_reducible first | apply EvAll.cons | exact EvAll.nil))); done) | exact rfl | exact ext_part _ | (focus (repeat (first | apply List.Mem.head | apply List.Mem.tail | apply List.mem_append_right))))); (simp only [cS, cZ]; exact rfl); clear hR; intro w hR)
    | (go_at_call 43; refine (ansR_ok (takeE_any hS hR (by (focus (repeat (first | apply Del.head | apply Del.tail))))) (take_cons _ _ _ _ _)).mono ?_; rintro e w' ⟨rfl, v1, hS1, hO⟩; clear hR; have hR := hO; clear hO)
    | ((with_reducible apply q_ls hR); exact rfl; (with_reducible apply t_cmp (op := .eql)); (apply EvC.now; exact rfl); (apply EvC.now; exact rfl); (first | exact H2.out | exact H3.out | exact H1.out | exact H4.out); (simp only [cS, cZ]; exact rfl); clear hR; intro w hR)
    | ((with_reducible apply wpList_put hR tPart); exact rfl; exact rfl; exact rfl; (focus (repeat (first | apply List.Mem.head | apply List.Mem.tail | apply List.mem_append_right))); exact put_part _ _; exact rfl; exact Nat.le_refl 14; exact one_part _; (focus (repeat (first | apply Upd.head | apply Upd.tail))); clear hR; intro w hR)
    | ((with_reducible apply wpList_put hR tTok); exact rfl; exact rfl; exact rfl; (focus (repeat (first | apply List.Mem.head | apply List.Mem.tail | apply List.mem_append_right))); exact put_tok _ _; exact rfl; exact Nat.le_refl 4; exact one_tok _; (focus (repeat (first | apply Upd.head | apply Upd.tail))); clear hR; intro w hR))
  exact ⟨rfl, rfl, hR.drop (by (focus (repeat (with_reducible first | exact List.Sublist.slnil | exact List.nil_sublist _ | exact List.Sublist.refl _ | exact List.sublist_append_right _ _ | apply List.Sublist.cons_cons | apply List.Sublist.cons | apply sub_right))))⟩
end Go.Proofs.YtckkgooabnlooaaDoor
