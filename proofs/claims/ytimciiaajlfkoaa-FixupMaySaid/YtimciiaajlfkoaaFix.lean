










/- The contracts of package fixup, whole: fixups out of a record. No statement of the seat is proved here. -/
import Derived.Test.YtimciiaajlfkoaaFixF
import Derived.Test.YtimciiaajlfkoaaFixR
namespace Go.Proofs.Ytimciiaajlfkoaa
open Go.ChangeShapes Go.WideShapes Go.ChangeAt Go.RowKit
set_option linter.unusedVariables false
set_option linter.unusedSimpArgs false

/-- A result in a slot, a struct in a cell, another result in a slot. -/
theorem post_row_mid {P : Program} {fn : Func} {R : Ending → World → Prop} {a : Act} {w0 w : World} {l : List RowT} (hR : Own w0 w l) {p q r : Tmp} {ty : TypeId} (h : fn.results = #[.tmp q, .cell p ty, .tmp r]) {g : Nat} {t : TypeId} {cs : Array Value} {d : TypeDesc} {n : Nat} {v u : Value}
    (hp : a.tmps.getD p undef = .pointer (some ⟨g, 0, none⟩)) (hq : a.tmps.getD q undef = v) (hr : a.tmps.getD r undef = u) (hm : (g, cs, t) ∈ l) (hu : P.underlying ty = some d) (hd : (match d with | .struct _ | .array _ _ => true | _ => false) = true) (hi : (P.info? ty).map (·.size) = some n) (hn : cs.size = n)
    (hdf : a.defers = []) (hR2 : R (.returned (.tuple #[v, .agg cs, u])) w) : bodyPost P fn R .ret a w := by
  refine bodyPost_ret ?_ hdf hR2
  have hp' : a.tmps[p]?.getD undef = .pointer (some ⟨g, 0, none⟩) := by simpa using hp
  have hq' : a.tmps[q]?.getD undef = v := by simpa using hq
  have hr' : a.tmps[r]?.getD undef = u := by simpa using hr
  simp [results, h, hp', hq', hr', asAddr, run_loadVar_row w g t ty cs (0, 0) d (hR.get hm) hu hd (by rw [hi, hn])]
theorem runF_succ (n : Int) (k : Nat) (l : List FixZ) (t : ThsZ) (s : SrcZ) : runF n (k + 1) l t s = if s.b = [] then (l, t, s.e)
    else if (numZ s 1).1 < 128 then runF n k l (threadR (numZ s 1).1 t (numZ s 1).2).1 (threadR (numZ s 1).1 t (numZ s 1).2).2
    else runF n k (l ++ [(oneR (numZ s 1).1 n t (numZ s 1).2).1]) t (oneR (numZ s 1).1 n t (numZ s 1).2).2 := rfl
theorem runF_end (n : Int) (k : Nat) (l : List FixZ) (t : ThsZ) {s : SrcZ} (h : s.b = []) : runF n k l t s = (l, t, s.e) := by
  obtain ⟨b, e⟩ := s
  dsimp only at h
  subst h
  exact runF_nil n k l t e
/-- How many bytes are left, as the source's struct tells. -/
def fixLen (g : Nat) (w : World) : Nat := lenV ((w.cell? (⟨g, 0, none⟩ : Addr)).getD undef)
theorem SrcW.lenF {w : World} {v : Value} {bs : List Int} (h : SrcW w v bs) : lenV v = bs.length := by
  rcases h.way with ⟨rfl, rfl⟩ | ⟨a, cap, rfl, _⟩
  · rfl
  · rfl
theorem fixLen_own {w0 w : World} {l sr : List RowT} {g : Nat} {cs : Array Value} {s : SrcZ} (hR : Own w0 w l) (hm : (g, cs, 76) ∈ l) (hS : SrcObj w0 sr cs s) (hs : ∀ r ∈ sr, r ∈ l) : fixLen g w = s.b.length := by
  obtain ⟨v, rfl, hv⟩ := hS.way
  unfold fixLen
  rw [cell_of_row _ _ _ _ _ _ (hR.get hm)]
  exact (hv _ _ _ hR hs).lenF
theorem byte_less {s : SrcZ} (h : s.b ≠ []) : (numZ s 1).2.b.length < s.b.length := by
  have := List.length_pos_iff.2 h
  unfold numZ takeZ
  rw [if_pos (by constructor <;> omega)]
  dsimp only
  rw [List.length_drop]
  omega
set_option maxHeartbeats 4000000 in
set_option maxRecDepth 100000 in
theorem fixGet_own {w0 : World} {v : Value} {bs : List Int} (n : Int) (t : ThsZ) (h : SrcW w0 v bs) (hl : bs.length ≤ 100000) (hn : 0 ≤ n ∧ n ≤ 100000) (ht : t.ok) :
    Calls Try.prog 16 #[v, .int .i64 n, .agg (encThs t)] w0 fun e w' => ∃ s v', e = .returned (.tuple #[v', .agg (encThs (getF bs n t).2.1), .int .i64 (getF bs n t).2.2]) ∧ Own w0 w' s ∧ RowsR 8 cellsF s v' (getF bs n t).1 := by
  have hR := Own.start w0
  have hok1 : SrcZ.ok ⟨bs, 0⟩ := ⟨h.ok, fun hn => absurd rfl hn⟩
  have hl1 : bs.length ≤ 1000000 := by omega
  obtain ⟨⟨A, T, E⟩, hr⟩ : ∃ R, runF n bs.length [] t ⟨bs, 0⟩ = R := ⟨_, rfl⟩
  obtain ⟨G, hG⟩ : ∃ G, getF bs n t = G := ⟨_, rfl⟩
  have HG := Lib.hid (show G = if E = 0 then (A, T, E) else ([], ths0, E) by rw [← hG]; unfold getF; rw [hr])
  rw [hG]
  have HR := Lib.hid hr
  clear hG hr hn
  go_enter Try.func16, Try.ntmps16
  go_wp2_with (first
    | ((with_reducible apply wpList_box hR); exact rfl; exact rfl; clear hR; intro g5 w hR; simp only [List.set_cons_succ, List.set_cons_zero])
    | ((with_reducible apply wpList_make hR zThs); exact rfl; clear hR; intro g7 w hR; simp only [List.set_cons_succ, List.set_cons_zero]))
  refine (fromG_any hR (src_start h) (fun _ hr => nomatch hr) hl1).mono ?_
  rintro e w' ⟨gs, cs, sr, rfl, hO, hS⟩
  clear hR
  have hR := (hO.les (Les.tail (Les.skip _ (Les.tail Les.one)))).swap
  clear hO
  go_wp2_with fail
  go_loopw [10] (fun va wr => ∃ (k : Nat) (a : List FixZ) (tS : ThsZ) (sS : SrcZ) (csS : Array Value) (sl : List RowT), runF n k a tS sS = (A, T, E) ∧ sS.b.length ≤ k ∧ sS.ok ∧ sS.b.length ≤ 1000000 ∧ tS.ok ∧ a.length + sS.b.length ≤ 100000 ∧ Sl 24 8 sl va a.length (a.flatMap cellsF) ∧
    Own w0 wr ((gs, csS, 76) :: (g5, encThs tS, 42) :: (sl ++ (sr ++ [(g7, encThs ths0, 42)]))) ∧ SrcObj w0 sr csS sS) (fun _ wr => fixLen gs wr)
  case atStart => exact ⟨bs.length, [], t, ⟨bs, 0⟩, cs, [], HR.out, Nat.le_refl _, hok1, hl1, ht, by simpa using hl, Sl.nil _ _, hR, hS⟩
  case round =>
    clear hR hS hok1 HR hl1 ht
    obtain ⟨k, a, tS, sS, csS, sl, hrunE, hkl, hokS, hlS, htS, hab, hSl, hR, hSS⟩ := hrel
    have hYX : ∀ r ∈ sr, r ∈ (g5, encThs tS, 42) :: (sl ++ (sr ++ [(g7, encThs ths0, 42)])) := fun r hr => by simp [hr]
    have HSO := Lib.hid (fixLen_own hR (.head _) hSS (fun r hr => .tail _ (hYX r hr)))
    obtain ⟨a1, n1, c1, rfl⟩ := hSl.shapeIdx
    by_cases hb : sS.b = []
    · have hL : sS.b.length = 0 := by rw [hb]; rfl
      go_upto_if 18 with (first
    | (go_at_call 28; refine (leftX_any hR Les.one hYX hSS hlS).mono ?_; rintro e w' ⟨rfl, hb⟩; replace hR := hR.grow hb; clear hb)
    | ((with_reducible apply q_ls hR); exact rfl; ((with_reducible first | apply t_addr (fFix _ (by decide)) | apply t_addr (fThs _ (by decide)) | apply t_addr (fThr _ (by decide)) | apply t_one tByteR | apply t_one tIntR | apply t_one tBoolF | apply t_one tWordF | apply t_part tFix) <;> (first | (apply EvC.gv; exact rfl; (with_reducible first | exact Imp.refl _ | (apply Imp.left; exact Imp.refl _) | (apply Imp.right; exact Imp.refl _) | (apply Imp.left; apply Imp.left; exact Imp.refl _))) | (apply EvC.now; exact rfl) | exact rfl | (with_reducible exact EvAll.nil) | (focus (repeat (first | apply EvAll.cons | exact EvAll.nil | (apply EvC.gv; exact rfl; (with_reducible first | exact Imp.refl _ | (apply Imp.left; exact Imp.refl _) | (apply Imp.right; exact Imp.refl _) | (apply Imp.left; apply Imp.left; exact Imp.refl _))) | (apply EvC.now; exact rfl))); done) | exact ext_fix _ | (focus (repeat (first | apply List.Mem.head | apply List.Mem.tail | apply List.mem_append_right))))); (simp only [List.set_cons_succ, List.set_cons_zero]; exact rfl); clear hR; intro w hR))
      refine wp_cond_at (nm := false) rfl (by simp [hL]) (fun h => absurd h (by decide)) (fun _ => ?_)
      rw [runF_end n k a tS hb] at hrunE
      obtain rfl : a = A := congrArg Prod.fst hrunE
      obtain rfl : tS = T := congrArg (fun x => x.2.1) hrunE
      obtain rfl : sS.e = E := congrArg (fun x => x.2.2) hrunE
      clear hrunE
      have HX := Lib.hid (fun (w : World) (r : List RowT) (hO : Own w0 w ((gs, csS, 76) :: r)) (hr : ∀ y ∈ sr, y ∈ r) => errX_any hO Les.one hr hSS)
      obtain ⟨x, hx⟩ : ∃ x, sS.e = x := ⟨_, rfl⟩
      rw [hx] at HX HG
      clear hx
      by_cases he : x = 0
      · have HV := Lib.hid (HG.out.trans (if_pos he))
        subst he
        go_upto_if 44 with (first
    | (go_at_call 33; refine (HX.out _ _ hR hYX).mono ?_; rintro e w' ⟨rfl, hb⟩; replace hR := hR.grow hb; clear hb)
    | ((with_reducible apply q_ls hR); exact rfl; ((with_reducible first | apply t_addr (fFix _ (by decide)) | apply t_addr (fThs _ (by decide)) | apply t_addr (fThr _ (by decide)) | apply t_one tByteR | apply t_one tIntR | apply t_one tBoolF | apply t_one tWordF | apply t_part tFix) <;> (first | (apply EvC.gv; exact rfl; (with_reducible first | exact Imp.refl _ | (apply Imp.left; exact Imp.refl _) | (apply Imp.right; exact Imp.refl _) | (apply Imp.left; apply Imp.left; exact Imp.refl _))) | (apply EvC.now; exact rfl) | exact rfl | (with_reducible exact EvAll.nil) | (focus (repeat (first | apply EvAll.cons | exact EvAll.nil | (apply EvC.gv; exact rfl; (with_reducible first | exact Imp.refl _ | (apply Imp.left; exact Imp.refl _) | (apply Imp.right; exact Imp.refl _) | (apply Imp.left; apply Imp.left; exact Imp.refl _))) | (apply EvC.now; exact rfl))); done) | exact ext_fix _ | (focus (repeat (first | apply List.Mem.head | apply List.Mem.tail | apply List.mem_append_right))))); (simp only [List.set_cons_succ, List.set_cons_zero]; exact rfl); clear hR; intro w hR))
        refine wp_cond_at (nm := false) rfl (by simp) (fun h => absurd h (by decide)) (fun _ => ?_)
        go_upto_region 14 with fail
        refine wp_region_some hR [(g5, encThs tS, 42)] (.cons _ (.cons_cons _ (List.nil_sublist _))) [0, 1, 2] 2 (by kernel_rfl) (by kernel_rfl) (by kernel_rfl) rfl ?_
        clear hR; intro hR
        repeat (refine wpT_step rfl ?_; first
    | ((first | (with_reducible apply q_pl) | ((with_reducible apply q_gd); (first | (apply GdBy.gt; exact rfl; exact rfl) | (apply GdBy.gf; exact rfl; exact rfl) | (apply GdBy.t; exact rfl; exact rfl) | (apply GdBy.f; exact rfl; exact rfl)))); (with_reducible apply t_part tThs); (first | (apply EvC.gv; exact rfl; (with_reducible first | exact Imp.refl _ | (apply Imp.left; exact Imp.refl _) | (apply Imp.right; exact Imp.refl _) | (apply Imp.left; apply Imp.left; exact Imp.refl _))) | (apply EvC.now; exact rfl) | exact rfl | (with_reducible exact EvAll.nil) | (focus (repeat (first | apply EvAll.cons | exact EvAll.nil | (apply EvC.gv; exact rfl; (with_reducible first | exact Imp.refl _ | (apply Imp.left; exact Imp.refl _) | (apply Imp.right; exact Imp.refl _) | (apply Imp.left; apply Imp.left; exact Imp.refl _))) | (apply EvC.now; exact rfl))); done) | exact ext_fix _ | (focus (repeat (first | apply List.Mem.head | apply List.Mem.tail | apply List.mem_append_right)))); (exact .head _); exact ext_ths htS; exact encThs_size htS; (simp only [List.set_cons_succ, List.set_cons_zero]; exact rfl))
    | ((first | (with_reducible apply q_pl) | ((with_reducible apply q_gd); (first | (apply GdBy.gt; exact rfl; exact rfl) | (apply GdBy.gf; exact rfl; exact rfl) | (apply GdBy.t; exact rfl; exact rfl) | (apply GdBy.f; exact rfl; exact rfl)))); (first | ((with_reducible first | apply t_move | apply t_assign | apply t_and | apply t_or | apply t_cmp | apply t_not | apply t_addr (fFix _ (by decide)) | apply t_addr (fThs _ (by decide)) | apply t_addr (fThr _ (by decide)) | apply t_one tByteR | apply t_one tIntR | apply t_one tBoolF | apply t_one tWordF | apply t_part tFix) <;> (first | (apply EvC.gv; exact rfl; (with_reducible first | exact Imp.refl _ | (apply Imp.left; exact Imp.refl _) | (apply Imp.right; exact Imp.refl _) | (apply Imp.left; apply Imp.left; exact Imp.refl _))) | (apply EvC.now; exact rfl) | exact rfl | (with_reducible exact EvAll.nil) | (focus (repeat (first | apply EvAll.cons | exact EvAll.nil | (apply EvC.gv; exact rfl; (with_reducible first | exact Imp.refl _ | (apply Imp.left; exact Imp.refl _) | (apply Imp.right; exact Imp.refl _) | (apply Imp.left; apply Imp.left; exact Imp.refl _))) | (apply EvC.now; exact rfl))); done) | exact ext_fix _ | (focus (repeat (first | apply List.Mem.head | apply List.Mem.tail | apply List.mem_append_right)))))); (simp only [List.set_cons_succ, List.set_cons_zero]; exact rfl)))
        refine wpT_nil ?_
        refine wpG_put hR tThs (i := 3) (by kernel_rfl) rfl rfl rfl (.tail _ (.tail _ (List.mem_append_right _ (List.mem_append_right _ (.head _))))) (put_ths _ (encThs_size ths0_ok) htS) (encThs_size htS) (by rw [encThs_size ths0_ok]; exact Nat.le_refl _) (one_ths _) (.tail (.tail (Upd.skipC _ (Upd.skipC _ .head)))) (.cons _ (.cons_cons _ (List.nil_sublist _))) ?_
        clear hR; intro w hR
        refine wpG_slot hR (i := 4) (by kernel_rfl) rfl rfl (by simp only [List.set_cons_succ, List.set_cons_zero]; exact rfl) ?_
        clear hR; intro w hR
        refine wpG_end hR (by kernel_rfl) ?_
        clear hR; intro w hR
        go_wp2_with fail
        (try simp only [Exit.inBlock, Exit.then])
        exact post_row_mid hR rfl (by rfl) (by rfl) (by rfl) (.tail _ (.tail _ (List.mem_append_right _ (List.mem_append_right _ (.head _))))) Try.underlying42 rfl iThs (encThs_size htS) (by rfl) ⟨sl, _, by rw [HV.out] <;> rfl, hR.drop (.cons _ (.cons _ (List.sublist_append_left _ _))), by rw [HV.out]; exact hSl.rowsR cellsF_one⟩
      · have HV := Lib.hid (HG.out.trans (if_neg he))
        go_upto_if 44 with (first
    | (go_at_call 33; refine (HX.out _ _ hR hYX).mono ?_; rintro e w' ⟨rfl, hb⟩; replace hR := hR.grow hb; clear hb)
    | ((with_reducible apply q_ls hR); exact rfl; ((with_reducible first | apply t_addr (fFix _ (by decide)) | apply t_addr (fThs _ (by decide)) | apply t_addr (fThr _ (by decide)) | apply t_one tByteR | apply t_one tIntR | apply t_one tBoolF | apply t_one tWordF | apply t_part tFix) <;> (first | (apply EvC.gv; exact rfl; (with_reducible first | exact Imp.refl _ | (apply Imp.left; exact Imp.refl _) | (apply Imp.right; exact Imp.refl _) | (apply Imp.left; apply Imp.left; exact Imp.refl _))) | (apply EvC.now; exact rfl) | exact rfl | (with_reducible exact EvAll.nil) | (focus (repeat (first | apply EvAll.cons | exact EvAll.nil | (apply EvC.gv; exact rfl; (with_reducible first | exact Imp.refl _ | (apply Imp.left; exact Imp.refl _) | (apply Imp.right; exact Imp.refl _) | (apply Imp.left; apply Imp.left; exact Imp.refl _))) | (apply EvC.now; exact rfl))); done) | exact ext_fix _ | (focus (repeat (first | apply List.Mem.head | apply List.Mem.tail | apply List.mem_append_right))))); (simp only [List.set_cons_succ, List.set_cons_zero]; exact rfl); clear hR; intro w hR))
        refine wp_cond_at (nm := true) rfl (by simp [he]) (fun _ => ?_) (fun h => absurd h (by decide))
        clear he
        repeat (first
    | ((with_reducible apply wpList_built); exact rfl; exact rfl; exact bThs0; (simp only [List.set_cons_succ, List.set_cons_zero]; exact rfl))
    | ((with_reducible apply wpList_put hR tThs); exact rfl; exact rfl; exact rfl; exact (.tail _ (.tail _ (List.mem_append_right _ (List.mem_append_right _ (.head _))))); exact put_ths _ (encThs_size ths0_ok) ths0_ok; exact encThs_size ths0_ok; (rw [encThs_size ths0_ok]; exact Nat.le_refl _); exact one_ths _; exact (.tail (.tail (Upd.skipC _ (Upd.skipC _ .head)))); clear hR; intro w hR)
    | ((with_reducible apply q_ls hR); exact rfl; ((with_reducible first | apply t_addr (fFix _ (by decide)) | apply t_addr (fThs _ (by decide)) | apply t_addr (fThr _ (by decide)) | apply t_one tByteR | apply t_one tIntR | apply t_one tBoolF | apply t_one tWordF | apply t_part tFix) <;> (first | (apply EvC.gv; exact rfl; (with_reducible first | exact Imp.refl _ | (apply Imp.left; exact Imp.refl _) | (apply Imp.right; exact Imp.refl _) | (apply Imp.left; apply Imp.left; exact Imp.refl _))) | (apply EvC.now; exact rfl) | exact rfl | (with_reducible exact EvAll.nil) | (focus (repeat (first | apply EvAll.cons | exact EvAll.nil | (apply EvC.gv; exact rfl; (with_reducible first | exact Imp.refl _ | (apply Imp.left; exact Imp.refl _) | (apply Imp.right; exact Imp.refl _) | (apply Imp.left; apply Imp.left; exact Imp.refl _))) | (apply EvC.now; exact rfl))); done) | exact ext_fix _ | (focus (repeat (first | apply List.Mem.head | apply List.Mem.tail | apply List.mem_append_right))))); (simp only [List.set_cons_succ, List.set_cons_zero]; exact rfl); clear hR; intro w hR)
          | go_step)
        (try simp only [Exit.inBlock, Exit.then])
        exact post_row_mid hR rfl (by rfl) (by rfl) (by rfl) (.tail _ (.tail _ (List.mem_append_right _ (List.mem_append_right _ (.head _))))) Try.underlying42 rfl iThs (encThs_size ths0_ok) (by rfl) ⟨[], _, by rw [HV.out] <;> rfl, hR.drop (List.nil_sublist _), by rw [HV.out]; exact (Sl.nil 24 8).rowsR cellsF_one⟩
    · have hL := List.length_pos_iff.2 hb
      obtain ⟨m, rfl⟩ : ∃ m, k = m + 1 := ⟨k - 1, by omega⟩
      rw [runF_succ, if_neg hb] at hrunE
      have hless := byte_less hb
      have hu := num_goes sS 1
      have hxb := byte_bd hokS
      obtain ⟨⟨x, s1⟩, hx⟩ : ∃ p, numZ sS 1 = p := ⟨_, rfl⟩
      rw [hx] at hless hu hrunE hxb
      dsimp only at hless hu hrunE hxb
      have o1 := hu.ok hokS
      have l1 : s1.b.length ≤ 1000000 := Nat.le_trans hu.len hlS
      have HX := Lib.hid hx
      clear hx hu
      go_upto_if 18 with (first
    | (go_at_call 28; refine (leftX_any hR Les.one hYX hSS hlS).mono ?_; rintro e w' ⟨rfl, hb⟩; replace hR := hR.grow hb; clear hb)
    | ((with_reducible apply q_ls hR); exact rfl; ((with_reducible first | apply t_addr (fFix _ (by decide)) | apply t_addr (fThs _ (by decide)) | apply t_addr (fThr _ (by decide)) | apply t_one tByteR | apply t_one tIntR | apply t_one tBoolF | apply t_one tWordF | apply t_part tFix) <;> (first | (apply EvC.gv; exact rfl; (with_reducible first | exact Imp.refl _ | (apply Imp.left; exact Imp.refl _) | (apply Imp.right; exact Imp.refl _) | (apply Imp.left; apply Imp.left; exact Imp.refl _))) | (apply EvC.now; exact rfl) | exact rfl | (with_reducible exact EvAll.nil) | (focus (repeat (first | apply EvAll.cons | exact EvAll.nil | (apply EvC.gv; exact rfl; (with_reducible first | exact Imp.refl _ | (apply Imp.left; exact Imp.refl _) | (apply Imp.right; exact Imp.refl _) | (apply Imp.left; apply Imp.left; exact Imp.refl _))) | (apply EvC.now; exact rfl))); done) | exact ext_fix _ | (focus (repeat (first | apply List.Mem.head | apply List.Mem.tail | apply List.mem_append_right))))); (simp only [List.set_cons_succ, List.set_cons_zero]; exact rfl); clear hR; intro w hR))
      refine wp_cond_at (nm := true) rfl (by first | (simp; done) | (simp; omega)) (fun _ => ?_) (fun h => absurd h (by decide))
      go_wp2_with fail
      refine (byteX_any hR Les.one hYX hSS hokS hlS).mono ?_
      rw [HX.out]
      rintro e w' ⟨rfl, cs2, hR2, hS2⟩
      clear hR hSS
      have hR := hR2
      have hS := hS2
      clear hR2 hS2
      by_cases hx8 : x < 128
      · have HB := Lib.hid (show bits .and .u8 x 128 = 0 by rw [fx128 hxb.1 hxb.2]; omega)
        rw [if_pos hx8] at hrunE
        have hY : ∀ r ∈ sr, r ∈ sl ++ (sr ++ [(g7, encThs ths0, 42)]) := fun r hr => by simp [hr]
        have hgo := thread_goes x tS s1
        have hto := threadR_ok (c := x) htS o1
        obtain ⟨⟨tN, sN⟩, htn⟩ : ∃ p, threadR x tS s1 = p := ⟨_, rfl⟩
        rw [htn] at hgo hto hrunE
        dsimp only at hgo hto hrunE
        have HTN := Lib.hid htn
        have HRUN := Lib.hid hrunE
        have oN := hgo.ok o1
        have lN : sN.b.length ≤ 1000000 := Nat.le_trans hgo.len l1
        have hNl : sN.b.length < sS.b.length := by have := hgo.len; omega
        clear htn hrunE hgo
        go_wp2_with (first
    | ((with_reducible apply q_ls hR); exact rfl; (with_reducible apply t_numE); (apply EvC.now; exact rfl); (apply EvC.now; exact rfl); exact rfl; (with_reducible (first | exact HB.out)); (simp only [List.set_cons_succ, List.set_cons_zero]; exact rfl); clear hR; intro w hR)
    | (go_at_call 30; refine (fixTell_any hR hY hS o1 l1 x hxb.1 (by omega) htS).mono ?_; rw [HTN.out]; rintro e w' ⟨rfl, cs3, hR3, hS3⟩; clear hR hS; have hR := hR3; have hS := hS3; clear hR3 hS3; have HSO2 := Lib.hid (fixLen_own hR (.head _) hS (fun r hr => .tail _ (.tail _ (hY r hr)))))
    | ((with_reducible apply q_ls hR); exact rfl; ((with_reducible first | apply t_addr (fFix _ (by decide)) | apply t_addr (fThs _ (by decide)) | apply t_addr (fThr _ (by decide)) | apply t_one tByteR | apply t_one tIntR | apply t_one tBoolF | apply t_one tWordF | apply t_part tFix) <;> (first | (apply EvC.gv; exact rfl; (with_reducible first | exact Imp.refl _ | (apply Imp.left; exact Imp.refl _) | (apply Imp.right; exact Imp.refl _) | (apply Imp.left; apply Imp.left; exact Imp.refl _))) | (apply EvC.now; exact rfl) | exact rfl | (with_reducible exact EvAll.nil) | (focus (repeat (first | apply EvAll.cons | exact EvAll.nil | (apply EvC.gv; exact rfl; (with_reducible first | exact Imp.refl _ | (apply Imp.left; exact Imp.refl _) | (apply Imp.right; exact Imp.refl _) | (apply Imp.left; apply Imp.left; exact Imp.refl _))) | (apply EvC.now; exact rfl))); done) | exact ext_fix _ | (focus (repeat (first | apply List.Mem.head | apply List.Mem.tail | apply List.mem_append_right))))); (simp only [List.set_cons_succ, List.set_cons_zero]; exact rfl); clear hR; intro w hR))
        go_round
        case rel => exact ⟨m, a, tN, sN, _, sl, HRUN.out, by omega, oN, lN, hto, by omega, hSl, hR, hS⟩
        case measure => rw [HSO2.out, HSO.out]; exact hNl
      · have HB := Lib.hid (show bits .and .u8 x 128 = 128 by rw [fx128 hxb.1 hxb.2]; omega)
        rw [if_neg hx8, oneR_read] at hrunE
        have hgo := read_goes x tS s1
        have hfo := readR_ok hxb htS o1
        obtain ⟨⟨f, s2⟩, hfn⟩ : ∃ p, readR x tS s1 = p := ⟨_, rfl⟩
        rw [hfn] at hgo hfo hrunE
        dsimp only at hgo hfo hrunE
        have HFN := Lib.hid hfn
        have o2 := hgo.ok o1
        have l2 : s2.b.length ≤ 1000000 := Nat.le_trans hgo.len l1
        have hL2 : s2.b.length < sS.b.length := by have := hgo.len; omega
        clear hfn hgo hx8
        have hYX2 : ∀ r ∈ sr, r ∈ (g5, encThs tS, 42) :: (sl ++ (sr ++ [(g7, encThs ths0, 42)])) := fun r hr => by simp [hr]
        go_upto_region 8 with (first
    | ((with_reducible apply q_ls hR); exact rfl; (with_reducible apply t_numE); (apply EvC.now; exact rfl); (apply EvC.now; exact rfl); exact rfl; (with_reducible (first | exact HB.out)); (simp only [List.set_cons_succ, List.set_cons_zero]; exact rfl); clear hR; intro w hR)
    | ((with_reducible apply q_ls hR); exact rfl; (with_reducible apply t_part tThs); (apply EvC.now; exact rfl); (exact .tail _ (.head _)); exact ext_ths htS; exact encThs_size htS; (simp only [List.set_cons_succ, List.set_cons_zero]; exact rfl); clear hR; intro w hR)
    | (go_at_call 31; refine (fixRead_any hR Les.one hYX2 hS o1 l1 x hxb.1 hxb.2 tS htS).mono ?_; rw [HFN.out]; rintro e w' ⟨rfl, cs3, hR3, hS3⟩; clear hR hS; have hR := hR3; have hS := hS3; clear hR3 hS3)
    | ((with_reducible apply wpList_make hR zFix); exact rfl; clear hR; intro g12 w hR; simp only [List.set_cons_succ, List.set_cons_zero])
    | ((with_reducible apply wpList_put hR tFix); exact rfl; exact rfl; exact rfl; (focus (repeat (first | apply List.Mem.head | apply List.Mem.tail | apply List.mem_append_right))); exact put_fix _ _; exact rfl; simp [encF]; exact one_fix _; (focus (repeat (first | apply Upd.head | apply Upd.tail | apply Upd.skipC))); clear hR; intro w hR)
    | ((with_reducible apply q_ls hR); exact rfl; ((with_reducible first | apply t_addr (fFix _ (by decide)) | apply t_addr (fThs _ (by decide)) | apply t_addr (fThr _ (by decide)) | apply t_one tByteR | apply t_one tIntR | apply t_one tBoolF | apply t_one tWordF | apply t_part tFix) <;> (first | (apply EvC.gv; exact rfl; (with_reducible first | exact Imp.refl _ | (apply Imp.left; exact Imp.refl _) | (apply Imp.right; exact Imp.refl _) | (apply Imp.left; apply Imp.left; exact Imp.refl _))) | (apply EvC.now; exact rfl) | exact rfl | (with_reducible exact EvAll.nil) | (focus (repeat (first | apply EvAll.cons | exact EvAll.nil | (apply EvC.gv; exact rfl; (with_reducible first | exact Imp.refl _ | (apply Imp.left; exact Imp.refl _) | (apply Imp.right; exact Imp.refl _) | (apply Imp.left; apply Imp.left; exact Imp.refl _))) | (apply EvC.now; exact rfl))); done) | exact ext_fix _ | (focus (repeat (first | apply List.Mem.head | apply List.Mem.tail | apply List.mem_append_right))))); (simp only [List.set_cons_succ, List.set_cons_zero]; exact rfl); clear hR; intro w hR))
        replace hR := hR.swap
        have hYX3 : ∀ r ∈ sr, r ∈ (g12, encF f, 24) :: (g5, encThs tS, 42) :: (sl ++ (sr ++ [(g7, encThs ths0, 42)])) := fun r hr => .tail _ (hYX2 r hr)
        cases hm : mayF f n
        · have HM : Hid (∀ w, Calls Try.prog 10 #[.agg (encF f), .int .i64 n] w fun e w' => e = .returned (.bool false) ∧ Below w.heap.size w w') := Lib.hid fun w => by have := fixMay_any f n w hfo; rwa [hm] at this
          rw [hm, if_neg (by decide)] at hrunE
          have hw := wrong_goes s2 3
          have o3 := hw.ok o2
          have l3 : (wrongZ s2 3).b.length ≤ 1000000 := Nat.le_trans hw.len l2
          have hL3 : (wrongZ s2 3).b.length < sS.b.length := by have := hw.len; omega
          have HRUN := Lib.hid hrunE
          clear hm hrunE hw
          go_upto_region 10 with (first
    | (go_at_call 10; refine (HM.out _).mono ?_; rintro e w' ⟨rfl, hb⟩; replace hR := hR.grow hb; clear hb)
    | (go_at_call 32; refine (wrongX_any hR Les.one hYX3 hS o2 3 (by decide) (by decide) (by decide)).mono ?_; rintro e w' ⟨rfl, cs4, hR4, hS4⟩; clear hR hS; have hR := hR4; have hS := hS4; clear hR4 hS4)
    | ((with_reducible apply q_ls hR); exact rfl; ((with_reducible first | apply t_addr (fFix _ (by decide)) | apply t_addr (fThs _ (by decide)) | apply t_addr (fThr _ (by decide)) | apply t_one tByteR | apply t_one tIntR | apply t_one tBoolF | apply t_one tWordF | apply t_part tFix) <;> (first | (apply EvC.gv; exact rfl; (with_reducible first | exact Imp.refl _ | (apply Imp.left; exact Imp.refl _) | (apply Imp.right; exact Imp.refl _) | (apply Imp.left; apply Imp.left; exact Imp.refl _))) | (apply EvC.now; exact rfl) | exact rfl | (with_reducible exact EvAll.nil) | (focus (repeat (first | apply EvAll.cons | exact EvAll.nil | (apply EvC.gv; exact rfl; (with_reducible first | exact Imp.refl _ | (apply Imp.left; exact Imp.refl _) | (apply Imp.right; exact Imp.refl _) | (apply Imp.left; apply Imp.left; exact Imp.refl _))) | (apply EvC.now; exact rfl))); done) | exact ext_fix _ | (focus (repeat (first | apply List.Mem.head | apply List.Mem.tail | apply List.mem_append_right))))); (simp only [List.set_cons_succ, List.set_cons_zero]; exact rfl); clear hR; intro w hR))
          have ha1 : a.length + 1 ≤ 100000 := by omega
          go_wp2_with (first
              | ((with_reducible apply wpList_buildS hR); exact rfl; exact rfl; (exact bFixes1 _); clear hR; intro gb w hR; simp only [List.set_cons_succ, List.set_cons_zero])
              | ((with_reducible apply wpList_appG hR tFixesB); exact rfl; exact rfl; exact rfl; exact hSl; (exact Les.tail (Les.tail (Les.tail (Les.tail Les.head)))); (exact rd_one (z := f) cellsF_len cellsF_one hR (.head _)); (simp only [maxLen]; omega); omega; clear hR hSl; intro s3 v3 w hR hS3; (obtain ⟨a3, n3, c3, rfl⟩ := hS3.shapeIdx); (replace hR := hR.les (Les.skip _ (Les.tail (Les.tail (Les.tail Les.one))))); (simp only [List.cons_append, List.nil_append] at hR); (replace hR := hR.les (Les.tail (Les.skip _ (Les.tail Les.one)))); (replace hR := hR.drop (List.Sublist.cons_cons _ (List.Sublist.cons_cons _ (List.Sublist.append (List.Sublist.refl _) (List.Sublist.cons _ (List.Sublist.cons _ (List.Sublist.refl _))))))); (have HSO2 := Lib.hid (fixLen_own hR (.head _) hS (fun r hr => .tail _ (.tail _ (List.mem_append_right _ (List.mem_append_left _ hr)))))); simp only [List.set_cons_succ, List.set_cons_zero])
              | ((with_reducible apply q_ls hR); exact rfl; ((with_reducible first | apply t_addr (fFix _ (by decide)) | apply t_addr (fThs _ (by decide)) | apply t_addr (fThr _ (by decide)) | apply t_one tByteR | apply t_one tIntR | apply t_one tBoolF | apply t_one tWordF | apply t_part tFix) <;> (first | (apply EvC.gv; exact rfl; (with_reducible first | exact Imp.refl _ | (apply Imp.left; exact Imp.refl _) | (apply Imp.right; exact Imp.refl _) | (apply Imp.left; apply Imp.left; exact Imp.refl _))) | (apply EvC.now; exact rfl) | exact rfl | (with_reducible exact EvAll.nil) | (focus (repeat (first | apply EvAll.cons | exact EvAll.nil | (apply EvC.gv; exact rfl; (with_reducible first | exact Imp.refl _ | (apply Imp.left; exact Imp.refl _) | (apply Imp.right; exact Imp.refl _) | (apply Imp.left; apply Imp.left; exact Imp.refl _))) | (apply EvC.now; exact rfl))); done) | exact ext_fix _ | (focus (repeat (first | apply List.Mem.head | apply List.Mem.tail | apply List.mem_append_right))))); (simp only [List.set_cons_succ, List.set_cons_zero]; exact rfl); clear hR; intro w hR))
          go_round
          case rel => exact ⟨m, a ++ [f], tS, wrongZ s2 3, _, s3, HRUN.out, by omega, o3, l3, htS, by rw [List.length_append, List.length_singleton]; omega, hS3.castF (by rw [List.length_append]; rfl) (by rw [List.flatMap_append]; simp), hR, hS⟩
          case measure => rw [HSO2.out, HSO.out]; exact hL3
        · have HM : Hid (∀ w, Calls Try.prog 10 #[.agg (encF f), .int .i64 n] w fun e w' => e = .returned (.bool true) ∧ Below w.heap.size w w') := Lib.hid fun w => by have := fixMay_any f n w hfo; rwa [hm] at this
          rw [hm, if_pos rfl] at hrunE
          have HRUN := Lib.hid hrunE
          clear hm hrunE
          go_upto_region 10 with (first
    | (go_at_call 10; refine (HM.out _).mono ?_; rintro e w' ⟨rfl, hb⟩; replace hR := hR.grow hb; clear hb)
    | ((with_reducible apply q_ls hR); exact rfl; ((with_reducible first | apply t_addr (fFix _ (by decide)) | apply t_addr (fThs _ (by decide)) | apply t_addr (fThr _ (by decide)) | apply t_one tByteR | apply t_one tIntR | apply t_one tBoolF | apply t_one tWordF | apply t_part tFix) <;> (first | (apply EvC.gv; exact rfl; (with_reducible first | exact Imp.refl _ | (apply Imp.left; exact Imp.refl _) | (apply Imp.right; exact Imp.refl _) | (apply Imp.left; apply Imp.left; exact Imp.refl _))) | (apply EvC.now; exact rfl) | exact rfl | (with_reducible exact EvAll.nil) | (focus (repeat (first | apply EvAll.cons | exact EvAll.nil | (apply EvC.gv; exact rfl; (with_reducible first | exact Imp.refl _ | (apply Imp.left; exact Imp.refl _) | (apply Imp.right; exact Imp.refl _) | (apply Imp.left; apply Imp.left; exact Imp.refl _))) | (apply EvC.now; exact rfl))); done) | exact ext_fix _ | (focus (repeat (first | apply List.Mem.head | apply List.Mem.tail | apply List.mem_append_right))))); (simp only [List.set_cons_succ, List.set_cons_zero]; exact rfl); clear hR; intro w hR))
          have ha1 : a.length + 1 ≤ 100000 := by omega
          go_wp2_with (first
              | ((with_reducible apply wpList_buildS hR); exact rfl; exact rfl; (exact bFixes1 _); clear hR; intro gb w hR; simp only [List.set_cons_succ, List.set_cons_zero])
              | ((with_reducible apply wpList_appG hR tFixesB); exact rfl; exact rfl; exact rfl; exact hSl; (exact Les.tail (Les.tail (Les.tail (Les.tail Les.head)))); (exact rd_one (z := f) cellsF_len cellsF_one hR (.head _)); (simp only [maxLen]; omega); omega; clear hR hSl; intro s3 v3 w hR hS3; (obtain ⟨a3, n3, c3, rfl⟩ := hS3.shapeIdx); (replace hR := hR.les (Les.skip _ (Les.tail (Les.tail (Les.tail Les.one))))); (simp only [List.cons_append, List.nil_append] at hR); (replace hR := hR.les (Les.tail (Les.skip _ (Les.tail Les.one)))); (replace hR := hR.drop (List.Sublist.cons_cons _ (List.Sublist.cons_cons _ (List.Sublist.append (List.Sublist.refl _) (List.Sublist.cons _ (List.Sublist.cons _ (List.Sublist.refl _))))))); (have HSO2 := Lib.hid (fixLen_own hR (.head _) hS (fun r hr => .tail _ (.tail _ (List.mem_append_right _ (List.mem_append_left _ hr)))))); simp only [List.set_cons_succ, List.set_cons_zero])
              | ((with_reducible apply q_ls hR); exact rfl; ((with_reducible first | apply t_addr (fFix _ (by decide)) | apply t_addr (fThs _ (by decide)) | apply t_addr (fThr _ (by decide)) | apply t_one tByteR | apply t_one tIntR | apply t_one tBoolF | apply t_one tWordF | apply t_part tFix) <;> (first | (apply EvC.gv; exact rfl; (with_reducible first | exact Imp.refl _ | (apply Imp.left; exact Imp.refl _) | (apply Imp.right; exact Imp.refl _) | (apply Imp.left; apply Imp.left; exact Imp.refl _))) | (apply EvC.now; exact rfl) | exact rfl | (with_reducible exact EvAll.nil) | (focus (repeat (first | apply EvAll.cons | exact EvAll.nil | (apply EvC.gv; exact rfl; (with_reducible first | exact Imp.refl _ | (apply Imp.left; exact Imp.refl _) | (apply Imp.right; exact Imp.refl _) | (apply Imp.left; apply Imp.left; exact Imp.refl _))) | (apply EvC.now; exact rfl))); done) | exact ext_fix _ | (focus (repeat (first | apply List.Mem.head | apply List.Mem.tail | apply List.mem_append_right))))); (simp only [List.set_cons_succ, List.set_cons_zero]; exact rfl); clear hR; intro w hR))
          go_round
          case rel => exact ⟨m, a ++ [f], tS, s2, _, s3, HRUN.out, by omega, o2, l2, htS, by rw [List.length_append, List.length_singleton]; omega, hS3.castF (by rw [List.length_append]; rfl) (by rw [List.flatMap_append]; simp), hR, hS⟩
          case measure => rw [HSO2.out, HSO.out]; exact hL2
theorem fixGet_any {w : World} {v : Value} {bs : List Int} (n : Int) (t : ThsZ) (h : SrcW w v bs) (hl : bs.length ≤ 100000) (hn : 0 ≤ n ∧ n ≤ 100000) (ht : t.ok) :
    Calls Try.prog 16 #[v, .int .i64 n, .agg (encThs t)] w fun e w' => ∃ v', e = .returned (.tuple #[v', .agg (encThs (getF bs n t).2.1), .int .i64 (getF bs n t).2.2]) ∧ Below w.heap.size w w' ∧ RowsAt 8 cellsF w' v' (getF bs n t).1 := by
  refine (fixGet_own n t h hl hn ht).mono ?_
  rintro e w' ⟨s, v', rfl, hO, hV⟩
  exact ⟨v', rfl, hO.below, hV _ _ _ hO fun _ h => h⟩
end Go.Proofs.Ytimciiaajlfkoaa
