









/- Contracts of package expr's deeper, bracketed, first. No statement of the seat is proved here. -/
import Derived.Test.YtckkgooabnlooaaDoorExpJ
namespace Go.Proofs.YtckkgooabnlooaaDoor
open Go.ChangeShapes Go.WideShapes Go.ChangeAt Go.RowKit
set_option linter.unusedVariables false
set_option linter.unusedSimpArgs false
set_option maxRecDepth 100000

/-- A call that reads on comes to what this function tells, wherever it comes to something. -/
def RdOk (w0 : World) (gr : Nat) (tb : TabZ) (K : List RowT) (f : FuncId) (args : Array Value) (m : St → Rs PartZ) : Prop :=
  ∀ (s : St) (v : Value) (w : World) (L R : List RowT), (m s).got → Toks w0 v s.l → Own w0 w L → Del (gr, rdr v tb s, 66) L R → (∀ r ∈ K, r ∈ R) → Calls Tryd.prog f args w (AnsR w0 gr tb partV R (m s))
theorem put_rd (v : Value) (tb : TabZ) (s : St) (x : Int) : PutRel (rdr v tb s) 9 [.int .i64 x] (rdr v tb { s with d := x }) := ⟨rfl⟩
theorem put_rm (v : Value) (tb : TabZ) (s : St) (x : Int) : PutRel (rdr v tb s) 10 [.int .i64 x] (rdr v tb { s with m := x }) := ⟨rfl⟩
theorem put_ri (v : Value) (tb : TabZ) (s : St) (x : Int) : PutRel (rdr v tb s) 11 [.int .i64 x] (rdr v tb { s with i := x }) := ⟨rfl⟩
theorem t_maxE {P : Program} {C : World → Prop} {c : Bool} {dd : Option Tmp} {ls : List Value} {ds : List Deferred} {tp : TypeId} {pos : String} {af : Array Edge} {gd : Option (Nat × Bool)} {ts : Array TypeId} {x y : Operand} {q : IntKind} {a b : Int} (hx : EvC ls c x (.int q a)) (hy : EvC ls c y (.int q b)) : TIf P C c ⟨dd, .call ⟨.builtin .max, #[x, y], ts⟩, tp, pos, af, gd⟩ ⟨ls.toArray, ds⟩ (.int q (maxZ a b)) := t_max hx hy
set_option maxHeartbeats 8000000 in
theorem deepE_any {w0 : World} {gr : Nat} {tb : TabZ} {K : List RowT} {F : FuncId} (hcf : ∀ (args : Array Value) w, (callFunc F args).run Tryd.prog w = .ok (.enter F args) w) {fs cp : Array Value} {m : St → Rs PartZ} (hF : RdOk w0 gr tb K F (fs ++ cp) m) :
    RdOk w0 gr tb K 54 #[.pointer (some ⟨gr, 0, none⟩), .func (.func F) fs cp] (deepM m) := by
  intro s v w L R hgot hS hO hd hK
  have hR := hO.lead hd
  clear hO hd
  unfold deepM at hgot ⊢
  by_cases h8 : 65536 < wrap64 (s.d + 1)
  · rw [if_pos h8]
    refine badR_ans ?_ rfl
    have H8 := Lib.hid (show decide (65536 < wrap64 (s.d + 1)) = true from decide_eq_true h8)
    clear h8 hgot hF
    go_enter Tryd.func54, Tryd.ntmps54
    go_upto_region 2 with (first
      | ((with_reducible apply wpList_box hR); exact rfl; exact rfl; clear hR; intro g w hR; simp only [cS, cZ])
      | ((with_reducible apply wpList_make hR zPart); exact rfl; clear hR; intro g w hR; simp only [cS, cZ])
      | ((with_reducible apply q_ls hR); exact rfl; ((with_reducible first | apply t_addr fRdr2 | apply t_addr fRdr3 | apply t_nilck | apply t_one tIntV | apply t_part tPart) <;> (first | (focus (repeat (first | (apply EvC.gv; exact rfl; (with_reducible first | exact Imp.refl _ | (apply Imp.left; exact Imp.refl _) | (apply Imp.right; exact Imp.refl _) | (apply Imp.left; apply Imp.left; exact Imp.refl _))) | (apply EvC.now; exact rfl) | (with_reducible first | apply EvAll.cons | exact EvAll.nil))); done) | exact rfl | exact ext_part _ | (focus (repeat (first | apply List.Mem.head | apply List.Mem.tail | apply List.mem_append_right))))); (simp only [cS, cZ]; exact rfl); clear hR; intro w hR)
      | ((with_reducible apply wpList_put1 hR tIntV); exact rfl; exact rfl; exact rfl; (focus (repeat (first | apply List.Mem.head | apply List.Mem.tail | apply List.mem_append_right))); exact put_rd _ _ _ _; (simp [rdr]); exact rfl; (focus (repeat (first | apply Upd.head | apply Upd.tail))); clear hR; intro w hR))
    refine wp_region_some hR [] (List.nil_sublist _) [0, 1, 2, 3, 5, 6, 7] 6 (by kernel_rfl) (by kernel_rfl) (by kernel_rfl) rfl ?_
    clear hR; intro hR
    repeat (refine wpT_step rfl ?_; first
      | ((first | (with_reducible apply q_pl) | ((with_reducible apply q_gd); (first | (apply GdBy.gt; exact rfl; exact rfl) | (apply GdBy.gf; exact rfl; exact rfl) | (apply GdBy.t; exact rfl; exact rfl) | (apply GdBy.f; exact rfl; exact rfl)))); (first | ((with_reducible first | apply t_move | apply t_assign | apply t_and | apply t_or | apply t_cmp | apply t_not | apply t_addr fRdr2 | apply t_addr fRdr3 | apply t_nilck | apply t_one tIntV | apply t_part tPart) <;> (first | (focus (repeat (first | (apply EvC.gv; exact rfl; (with_reducible first | exact Imp.refl _ | (apply Imp.left; exact Imp.refl _) | (apply Imp.right; exact Imp.refl _) | (apply Imp.left; apply Imp.left; exact Imp.refl _))) | (apply EvC.now; exact rfl) | (with_reducible first | apply EvAll.cons | exact EvAll.nil))); done) | exact rfl | exact ext_part _ | (focus (repeat (first | apply List.Mem.head | apply List.Mem.tail | apply List.mem_append_right)))))); (simp only [cS, cZ]; exact rfl)))
    refine wpT_nil ?_
    repeat' (first
            | (refine wpG_many hR (rs := [4, 8]) (by decide +kernel) rfl (fun w hR => ⟨?_, ?_, trivial⟩))
            | (refine wpG_many hR (rs := [4]) (by decide +kernel) rfl (fun w hR => ⟨?_, trivial⟩))
            | (refine wpG_many hR (rs := [8]) (by decide +kernel) rfl (fun w hR => ⟨?_, trivial⟩))
            | (refine opQ hR rfl rfl (t_one tIntV (EvC.now rfl) (by (focus (repeat (first | apply List.Mem.head | apply List.Mem.tail | apply List.mem_append_right)))) rfl) (by (simp only [cS, cZ]; exact rfl)) ?_; clear hR; intro w hR; refine ⟨hR.drop (List.nil_sublist _), ?_⟩))
    all_goals
      refine wpG_of_wpT (n := 1) (by kernel_rfl) (fun _ _ _ h => h) _ [9, 10, 11] _ _ (by kernel_rfl) ?_
      repeat (refine wpT_step rfl ?_; first
      | ((with_reducible apply q_pl); (with_reducible apply t_maxE); (apply EvC.now; exact rfl); (apply EvC.now; exact rfl); (simp only [cS, cZ]; exact rfl))
      | ((first | (with_reducible apply q_pl) | ((with_reducible apply q_gd); (first | (apply GdBy.gt; exact rfl; exact rfl) | (apply GdBy.gf; exact rfl; exact rfl) | (apply GdBy.t; exact rfl; exact rfl) | (apply GdBy.f; exact rfl; exact rfl)))); (first | ((with_reducible first | apply t_move | apply t_assign | apply t_and | apply t_or | apply t_cmp | apply t_not | apply t_addr fRdr2 | apply t_addr fRdr3 | apply t_nilck | apply t_one tIntV | apply t_part tPart) <;> (first | (focus (repeat (first | (apply EvC.gv; exact rfl; (with_reducible first | exact Imp.refl _ | (apply Imp.left; exact Imp.refl _) | (apply Imp.right; exact Imp.refl _) | (apply Imp.left; apply Imp.left; exact Imp.refl _))) | (apply EvC.now; exact rfl) | (with_reducible first | apply EvAll.cons | exact EvAll.nil))); done) | exact rfl | exact ext_part _ | (focus (repeat (first | apply List.Mem.head | apply List.Mem.tail | apply List.mem_append_right)))))); (simp only [cS, cZ]; exact rfl)))
      refine wpT_nil ?_
      refine wpG_put1 hR tIntV (i := 12) (by kernel_rfl) rfl rfl rfl (by (focus (repeat (first | apply List.Mem.head | apply List.Mem.tail | apply List.mem_append_right)))) (put_rm _ _ _ _) (by simp [rdr]) rfl (by (focus (repeat (first | apply Upd.head | apply Upd.tail)))) (List.nil_sublist _) ?_
      clear hR; intro w hR
      refine wpG_end hR (by kernel_rfl) ?_
      clear hR; intro w hR
      go_upto_if 29 with (first
      | ((with_reducible apply q_ls hR); exact rfl; ((with_reducible first | apply t_addr fRdr2 | apply t_addr fRdr3 | apply t_nilck | apply t_one tIntV | apply t_part tPart) <;> (first | (focus (repeat (first | (apply EvC.gv; exact rfl; (with_reducible first | exact Imp.refl _ | (apply Imp.left; exact Imp.refl _) | (apply Imp.right; exact Imp.refl _) | (apply Imp.left; apply Imp.left; exact Imp.refl _))) | (apply EvC.now; exact rfl) | (with_reducible first | apply EvAll.cons | exact EvAll.nil))); done) | exact rfl | exact ext_part _ | (focus (repeat (first | apply List.Mem.head | apply List.Mem.tail | apply List.mem_append_right))))); (simp only [cS, cZ]; exact rfl); clear hR; intro w hR))
      refine wp_cond_at (nm := true) rfl H8.out (fun _ => ?_) (fun h => absurd h (by decide))
      go_wp2_with fail
      exact ⟨rfl, rfl, hR.drop (by (focus (repeat (with_reducible first | exact List.Sublist.slnil | exact List.nil_sublist _ | exact List.Sublist.refl _ | exact List.sublist_append_right _ _ | apply List.Sublist.cons_cons | apply List.Sublist.cons | apply sub_right))))⟩
  · rw [if_neg h8] at hgot ⊢
    have H8 := Lib.hid (show decide (65536 < wrap64 (s.d + 1)) = false from decide_eq_false h8)
    clear h8
    rcases hm : m (deepS s) with ⟨p, s2⟩ | e | _
    · have HM := Lib.hid (fun (w' : World) (X L' : List RowT) (hO : Own w0 w' L') (hd' : Del (gr, rdr v tb (deepS s), 66) L' X) (hK' : ∀ r ∈ K, r ∈ X) => ansR_ok (hF (deepS s) v w' L' X (by rw [hm]; trivial) hS hO hd' hK') hm)
      refine okR_ans ?_ rfl
      clear hm hgot hF hS
      go_enter Tryd.func54, Tryd.ntmps54
      go_upto_region 2 with (first
        | ((with_reducible apply wpList_box hR); exact rfl; exact rfl; clear hR; intro g w hR; simp only [cS, cZ])
        | ((with_reducible apply wpList_make hR zPart); exact rfl; clear hR; intro g w hR; simp only [cS, cZ])
        | ((with_reducible apply q_ls hR); exact rfl; ((with_reducible first | apply t_addr fRdr2 | apply t_addr fRdr3 | apply t_nilck | apply t_one tIntV | apply t_part tPart) <;> (first | (focus (repeat (first | (apply EvC.gv; exact rfl; (with_reducible first | exact Imp.refl _ | (apply Imp.left; exact Imp.refl _) | (apply Imp.right; exact Imp.refl _) | (apply Imp.left; apply Imp.left; exact Imp.refl _))) | (apply EvC.now; exact rfl) | (with_reducible first | apply EvAll.cons | exact EvAll.nil))); done) | exact rfl | exact ext_part _ | (focus (repeat (first | apply List.Mem.head | apply List.Mem.tail | apply List.mem_append_right))))); (simp only [cS, cZ]; exact rfl); clear hR; intro w hR)
        | ((with_reducible apply wpList_put1 hR tIntV); exact rfl; exact rfl; exact rfl; (focus (repeat (first | apply List.Mem.head | apply List.Mem.tail | apply List.mem_append_right))); exact put_rd _ _ _ _; (simp [rdr]); exact rfl; (focus (repeat (first | apply Upd.head | apply Upd.tail))); clear hR; intro w hR))
      refine wp_region_some hR [] (List.nil_sublist _) [0, 1, 2, 3, 5, 6, 7] 6 (by kernel_rfl) (by kernel_rfl) (by kernel_rfl) rfl ?_
      clear hR; intro hR
      repeat (refine wpT_step rfl ?_; first
        | ((first | (with_reducible apply q_pl) | ((with_reducible apply q_gd); (first | (apply GdBy.gt; exact rfl; exact rfl) | (apply GdBy.gf; exact rfl; exact rfl) | (apply GdBy.t; exact rfl; exact rfl) | (apply GdBy.f; exact rfl; exact rfl)))); (first | ((with_reducible first | apply t_move | apply t_assign | apply t_and | apply t_or | apply t_cmp | apply t_not | apply t_addr fRdr2 | apply t_addr fRdr3 | apply t_nilck | apply t_one tIntV | apply t_part tPart) <;> (first | (focus (repeat (first | (apply EvC.gv; exact rfl; (with_reducible first | exact Imp.refl _ | (apply Imp.left; exact Imp.refl _) | (apply Imp.right; exact Imp.refl _) | (apply Imp.left; apply Imp.left; exact Imp.refl _))) | (apply EvC.now; exact rfl) | (with_reducible first | apply EvAll.cons | exact EvAll.nil))); done) | exact rfl | exact ext_part _ | (focus (repeat (first | apply List.Mem.head | apply List.Mem.tail | apply List.mem_append_right)))))); (simp only [cS, cZ]; exact rfl)))
      refine wpT_nil ?_
      repeat' (first
              | (refine wpG_many hR (rs := [4, 8]) (by decide +kernel) rfl (fun w hR => ⟨?_, ?_, trivial⟩))
              | (refine wpG_many hR (rs := [4]) (by decide +kernel) rfl (fun w hR => ⟨?_, trivial⟩))
              | (refine wpG_many hR (rs := [8]) (by decide +kernel) rfl (fun w hR => ⟨?_, trivial⟩))
              | (refine opQ hR rfl rfl (t_one tIntV (EvC.now rfl) (by (focus (repeat (first | apply List.Mem.head | apply List.Mem.tail | apply List.mem_append_right)))) rfl) (by (simp only [cS, cZ]; exact rfl)) ?_; clear hR; intro w hR; refine ⟨hR.drop (List.nil_sublist _), ?_⟩))
      all_goals
        refine wpG_of_wpT (n := 1) (by kernel_rfl) (fun _ _ _ h => h) _ [9, 10, 11] _ _ (by kernel_rfl) ?_
        repeat (refine wpT_step rfl ?_; first
        | ((with_reducible apply q_pl); (with_reducible apply t_maxE); (apply EvC.now; exact rfl); (apply EvC.now; exact rfl); (simp only [cS, cZ]; exact rfl))
        | ((first | (with_reducible apply q_pl) | ((with_reducible apply q_gd); (first | (apply GdBy.gt; exact rfl; exact rfl) | (apply GdBy.gf; exact rfl; exact rfl) | (apply GdBy.t; exact rfl; exact rfl) | (apply GdBy.f; exact rfl; exact rfl)))); (first | ((with_reducible first | apply t_move | apply t_assign | apply t_and | apply t_or | apply t_cmp | apply t_not | apply t_addr fRdr2 | apply t_addr fRdr3 | apply t_nilck | apply t_one tIntV | apply t_part tPart) <;> (first | (focus (repeat (first | (apply EvC.gv; exact rfl; (with_reducible first | exact Imp.refl _ | (apply Imp.left; exact Imp.refl _) | (apply Imp.right; exact Imp.refl _) | (apply Imp.left; apply Imp.left; exact Imp.refl _))) | (apply EvC.now; exact rfl) | (with_reducible first | apply EvAll.cons | exact EvAll.nil))); done) | exact rfl | exact ext_part _ | (focus (repeat (first | apply List.Mem.head | apply List.Mem.tail | apply List.mem_append_right)))))); (simp only [cS, cZ]; exact rfl)))
        refine wpT_nil ?_
        refine wpG_put1 hR tIntV (i := 12) (by kernel_rfl) rfl rfl rfl (by (focus (repeat (first | apply List.Mem.head | apply List.Mem.tail | apply List.mem_append_right)))) (put_rm _ _ _ _) (by simp [rdr]) rfl (by (focus (repeat (first | apply Upd.head | apply Upd.tail)))) (List.nil_sublist _) ?_
        clear hR; intro w hR
        refine wpG_end hR (by kernel_rfl) ?_
        clear hR; intro w hR
        go_upto_if 29 with (first
        | ((with_reducible apply q_ls hR); exact rfl; ((with_reducible first | apply t_addr fRdr2 | apply t_addr fRdr3 | apply t_nilck | apply t_one tIntV | apply t_part tPart) <;> (first | (focus (repeat (first | (apply EvC.gv; exact rfl; (with_reducible first | exact Imp.refl _ | (apply Imp.left; exact Imp.refl _) | (apply Imp.right; exact Imp.refl _) | (apply Imp.left; apply Imp.left; exact Imp.refl _))) | (apply EvC.now; exact rfl) | (with_reducible first | apply EvAll.cons | exact EvAll.nil))); done) | exact rfl | exact ext_part _ | (focus (repeat (first | apply List.Mem.head | apply List.Mem.tail | apply List.mem_append_right))))); (simp only [cS, cZ]; exact rfl); clear hR; intro w hR))
        refine wp_cond_at (nm := false) rfl H8.out (fun h => absurd h (by decide)) (fun _ => ?_)
        go_wp2_with (first
    | ((with_reducible apply wpList_fnP hcf); exact rfl; exact rfl; (refine (HM.out _ _ _ hR (by (focus (repeat (first | apply Del.head | apply Del.tail)))) (fun r hr => .tail _ (hK r hr))).mono ?_); (rintro en w' ⟨rfl, v2, hS2, hO⟩; refine .inl ⟨_, rfl, ?_⟩; clear hR; have hR := hO; clear hO); simp only [cS, cZ])
    | ((with_reducible apply wpList_box hR); exact rfl; exact rfl; clear hR; intro g w hR; simp only [cS, cZ])
    | ((with_reducible apply wpList_make hR zPart); exact rfl; clear hR; intro g w hR; simp only [cS, cZ])
    | ((with_reducible apply q_ls hR); exact rfl; ((with_reducible first | apply t_addr fRdr2 | apply t_addr fRdr3 | apply t_nilck | apply t_one tIntV | apply t_part tPart) <;> (first | (focus (repeat (first | (apply EvC.gv; exact rfl; (with_reducible first | exact Imp.refl _ | (apply Imp.left; exact Imp.refl _) | (apply Imp.right; exact Imp.refl _) | (apply Imp.left; apply Imp.left; exact Imp.refl _))) | (apply EvC.now; exact rfl) | (with_reducible first | apply EvAll.cons | exact EvAll.nil))); done) | exact rfl | exact ext_part _ | (focus (repeat (first | apply List.Mem.head | apply List.Mem.tail | apply List.mem_append_right))))); (simp only [cS, cZ]; exact rfl); clear hR; intro w hR)
    | ((with_reducible apply wpList_put1 hR tIntV); exact rfl; exact rfl; exact rfl; (focus (repeat (first | apply List.Mem.head | apply List.Mem.tail | apply List.mem_append_right))); exact put_rd _ _ _ _; (simp [rdr]); exact rfl; (focus (repeat (first | apply Upd.head | apply Upd.tail))); clear hR; intro w hR)
    | ((with_reducible apply wpList_put hR tPart); exact rfl; exact rfl; exact rfl; (focus (repeat (first | apply List.Mem.head | apply List.Mem.tail | apply List.mem_append_right))); exact put_part _ _; exact rfl; exact Nat.le_refl 14; exact one_part _; (focus (repeat (first | apply Upd.head | apply Upd.tail))); clear hR; intro w hR))
        (try simp only [Exit.inBlock, Exit.then])
        exact post_row hR rfl (by rfl) (by (focus (repeat (first | apply List.Mem.head | apply List.Mem.tail | apply List.mem_append_right)))) Tryd.underlying69 rfl iPart (by rfl) (by rfl) ⟨rfl, _, hS2, (hR.lead (by (focus (repeat (first | apply Del.head | apply Del.tail))))).drop (List.Sublist.cons_cons _ (by (focus (repeat (with_reducible first | exact List.Sublist.slnil | exact List.nil_sublist _ | exact List.Sublist.refl _ | exact List.sublist_append_right _ _ | apply List.Sublist.cons_cons | apply List.Sublist.cons | apply sub_right)))))⟩
    · have HM := Lib.hid (fun (w' : World) (X L' : List RowT) (hO : Own w0 w' L') (hd' : Del (gr, rdr v tb (deepS s), 66) L' X) (hK' : ∀ r ∈ K, r ∈ X) => ansR_bad (hF (deepS s) v w' L' X (by rw [hm]; trivial) hS hO hd' hK') hm)
      refine badR_ans ?_ rfl
      clear hm hgot hF hS
      go_enter Tryd.func54, Tryd.ntmps54
      go_upto_region 2 with (first
        | ((with_reducible apply wpList_box hR); exact rfl; exact rfl; clear hR; intro g w hR; simp only [cS, cZ])
        | ((with_reducible apply wpList_make hR zPart); exact rfl; clear hR; intro g w hR; simp only [cS, cZ])
        | ((with_reducible apply q_ls hR); exact rfl; ((with_reducible first | apply t_addr fRdr2 | apply t_addr fRdr3 | apply t_nilck | apply t_one tIntV | apply t_part tPart) <;> (first | (focus (repeat (first | (apply EvC.gv; exact rfl; (with_reducible first | exact Imp.refl _ | (apply Imp.left; exact Imp.refl _) | (apply Imp.right; exact Imp.refl _) | (apply Imp.left; apply Imp.left; exact Imp.refl _))) | (apply EvC.now; exact rfl) | (with_reducible first | apply EvAll.cons | exact EvAll.nil))); done) | exact rfl | exact ext_part _ | (focus (repeat (first | apply List.Mem.head | apply List.Mem.tail | apply List.mem_append_right))))); (simp only [cS, cZ]; exact rfl); clear hR; intro w hR)
        | ((with_reducible apply wpList_put1 hR tIntV); exact rfl; exact rfl; exact rfl; (focus (repeat (first | apply List.Mem.head | apply List.Mem.tail | apply List.mem_append_right))); exact put_rd _ _ _ _; (simp [rdr]); exact rfl; (focus (repeat (first | apply Upd.head | apply Upd.tail))); clear hR; intro w hR))
      refine wp_region_some hR [] (List.nil_sublist _) [0, 1, 2, 3, 5, 6, 7] 6 (by kernel_rfl) (by kernel_rfl) (by kernel_rfl) rfl ?_
      clear hR; intro hR
      repeat (refine wpT_step rfl ?_; first
        | ((first | (with_reducible apply q_pl) | ((with_reducible apply q_gd); (first | (apply GdBy.gt; exact rfl; exact rfl) | (apply GdBy.gf; exact rfl; exact rfl) | (apply GdBy.t; exact rfl; exact rfl) | (apply GdBy.f; exact rfl; exact rfl)))); (first | ((with_reducible first | apply t_move | apply t_assign | apply t_and | apply t_or | apply t_cmp | apply t_not | apply t_addr fRdr2 | apply t_addr fRdr3 | apply t_nilck | apply t_one tIntV | apply t_part tPart) <;> (first | (focus (repeat (first | (apply EvC.gv; exact rfl; (with_reducible first | exact Imp.refl _ | (apply Imp.left; exact Imp.refl _) | (apply Imp.right; exact Imp.refl _) | (apply Imp.left; apply Imp.left; exact Imp.refl _))) | (apply EvC.now; exact rfl) | (with_reducible first | apply EvAll.cons | exact EvAll.nil))); done) | exact rfl | exact ext_part _ | (focus (repeat (first | apply List.Mem.head | apply List.Mem.tail | apply List.mem_append_right)))))); (simp only [cS, cZ]; exact rfl)))
      refine wpT_nil ?_
      repeat' (first
              | (refine wpG_many hR (rs := [4, 8]) (by decide +kernel) rfl (fun w hR => ⟨?_, ?_, trivial⟩))
              | (refine wpG_many hR (rs := [4]) (by decide +kernel) rfl (fun w hR => ⟨?_, trivial⟩))
              | (refine wpG_many hR (rs := [8]) (by decide +kernel) rfl (fun w hR => ⟨?_, trivial⟩))
              | (refine opQ hR rfl rfl (t_one tIntV (EvC.now rfl) (by (focus (repeat (first | apply List.Mem.head | apply List.Mem.tail | apply List.mem_append_right)))) rfl) (by (simp only [cS, cZ]; exact rfl)) ?_; clear hR; intro w hR; refine ⟨hR.drop (List.nil_sublist _), ?_⟩))
      all_goals
        refine wpG_of_wpT (n := 1) (by kernel_rfl) (fun _ _ _ h => h) _ [9, 10, 11] _ _ (by kernel_rfl) ?_
        repeat (refine wpT_step rfl ?_; first
        | ((with_reducible apply q_pl); (with_reducible apply t_maxE); (apply EvC.now; exact rfl); (apply EvC.now; exact rfl); (simp only [cS, cZ]; exact rfl))
        | ((first | (with_reducible apply q_pl) | ((with_reducible apply q_gd); (first | (apply GdBy.gt; exact rfl; exact rfl) | (apply GdBy.gf; exact rfl; exact rfl) | (apply GdBy.t; exact rfl; exact rfl) | (apply GdBy.f; exact rfl; exact rfl)))); (first | ((with_reducible first | apply t_move | apply t_assign | apply t_and | apply t_or | apply t_cmp | apply t_not | apply t_addr fRdr2 | apply t_addr fRdr3 | apply t_nilck | apply t_one tIntV | apply t_part tPart) <;> (first | (focus (repeat (first | (apply EvC.gv; exact rfl; (with_reducible first | exact Imp.refl _ | (apply Imp.left; exact Imp.refl _) | (apply Imp.right; exact Imp.refl _) | (apply Imp.left; apply Imp.left; exact Imp.refl _))) | (apply EvC.now; exact rfl) | (with_reducible first | apply EvAll.cons | exact EvAll.nil))); done) | exact rfl | exact ext_part _ | (focus (repeat (first | apply List.Mem.head | apply List.Mem.tail | apply List.mem_append_right)))))); (simp only [cS, cZ]; exact rfl)))
        refine wpT_nil ?_
        refine wpG_put1 hR tIntV (i := 12) (by kernel_rfl) rfl rfl rfl (by (focus (repeat (first | apply List.Mem.head | apply List.Mem.tail | apply List.mem_append_right)))) (put_rm _ _ _ _) (by simp [rdr]) rfl (by (focus (repeat (first | apply Upd.head | apply Upd.tail)))) (List.nil_sublist _) ?_
        clear hR; intro w hR
        refine wpG_end hR (by kernel_rfl) ?_
        clear hR; intro w hR
        go_upto_if 29 with (first
        | ((with_reducible apply q_ls hR); exact rfl; ((with_reducible first | apply t_addr fRdr2 | apply t_addr fRdr3 | apply t_nilck | apply t_one tIntV | apply t_part tPart) <;> (first | (focus (repeat (first | (apply EvC.gv; exact rfl; (with_reducible first | exact Imp.refl _ | (apply Imp.left; exact Imp.refl _) | (apply Imp.right; exact Imp.refl _) | (apply Imp.left; apply Imp.left; exact Imp.refl _))) | (apply EvC.now; exact rfl) | (with_reducible first | apply EvAll.cons | exact EvAll.nil))); done) | exact rfl | exact ext_part _ | (focus (repeat (first | apply List.Mem.head | apply List.Mem.tail | apply List.mem_append_right))))); (simp only [cS, cZ]; exact rfl); clear hR; intro w hR))
        refine wp_cond_at (nm := false) rfl H8.out (fun h => absurd h (by decide)) (fun _ => ?_)
        go_wp2_with (first
    | ((with_reducible apply wpList_fnP hcf); exact rfl; exact rfl; (refine (HM.out _ _ _ hR (by (focus (repeat (first | apply Del.head | apply Del.tail)))) (fun r hr => .tail _ (hK r hr))).mono ?_); (rintro en w' ⟨rfl, hO⟩; refine .inr ⟨_, rfl, ?_⟩; clear hR; have hR := hO; clear hO))
    | ((with_reducible apply wpList_box hR); exact rfl; exact rfl; clear hR; intro g w hR; simp only [cS, cZ])
    | ((with_reducible apply wpList_make hR zPart); exact rfl; clear hR; intro g w hR; simp only [cS, cZ])
    | ((with_reducible apply q_ls hR); exact rfl; ((with_reducible first | apply t_addr fRdr2 | apply t_addr fRdr3 | apply t_nilck | apply t_one tIntV | apply t_part tPart) <;> (first | (focus (repeat (first | (apply EvC.gv; exact rfl; (with_reducible first | exact Imp.refl _ | (apply Imp.left; exact Imp.refl _) | (apply Imp.right; exact Imp.refl _) | (apply Imp.left; apply Imp.left; exact Imp.refl _))) | (apply EvC.now; exact rfl) | (with_reducible first | apply EvAll.cons | exact EvAll.nil))); done) | exact rfl | exact ext_part _ | (focus (repeat (first | apply List.Mem.head | apply List.Mem.tail | apply List.mem_append_right))))); (simp only [cS, cZ]; exact rfl); clear hR; intro w hR))
        exact ⟨rfl, rfl, hR.drop (by (focus (repeat (with_reducible first | exact List.Sublist.slnil | exact List.nil_sublist _ | exact List.Sublist.refl _ | exact List.sublist_append_right _ _ | apply List.Sublist.cons_cons | apply List.Sublist.cons | apply sub_right))))⟩
    · exfalso; rw [hm] at hgot; exact hgot
end Go.Proofs.YtckkgooabnlooaaDoor
