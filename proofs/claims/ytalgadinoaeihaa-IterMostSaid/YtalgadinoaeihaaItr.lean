








/- The contracts of package iter, whole: data out of a record of blocks. No statement of the seat is proved here. -/
import Derived.Test.YtalgadinoaeihaaItrE
namespace Go.Proofs.Ytalgadinoaeihaa
open Go.ChangeShapes Go.WideShapes Go.ChangeAt Go.RowKit
set_option linter.unusedVariables false
set_option linter.unusedSimpArgs false

theorem put_d0 (d : Array Value) (hd : d.size = 4) (c : Array Value) (hc : c.size = 4) : PutRel d 0 c.toList c := putList_all (by simp [hd, hc])
theorem bDatZ : Built Try.prog 41 [] (encD 0 0 nilV nilV) := ⟨by kernel_rfl⟩
theorem bDat2 (s : Int) (o : Nat) : Built Try.prog 41 [(0, .int .i64 s), (1, .int .u16 (o : Int))] (encD s o nilV nilV) := ⟨by kernel_rfl⟩
/-- How many bytes are left, as the source's struct tells. -/
def srcLen (g : Nat) (w : World) : Nat := lenV ((w.cell? (⟨g, 0, none⟩ : Addr)).getD undef)
theorem SrcW.lenV {w : World} {v : Value} {bs : List Int} (h : SrcW w v bs) : lenV v = bs.length := by
  rcases h.way with ⟨rfl, rfl⟩ | ⟨a, cap, rfl, _⟩
  · rfl
  · rfl
theorem srcLen_own {w0 w : World} {l sr : List RowT} {g : Nat} {cs : Array Value} {s : SrcZ} (hR : Own w0 w l) (hm : (g, cs, 69) ∈ l) (hS : SrcObj w0 sr cs s) (hs : ∀ r ∈ sr, r ∈ l) : srcLen g w = s.b.length := by
  obtain ⟨v, rfl, hv⟩ := hS.way
  unfold srcLen
  rw [cell_of_row _ _ _ _ _ _ (hR.get hm)]
  exact (hv _ _ _ hR hs).lenV
set_option maxHeartbeats 4000000 in
set_option maxRecDepth 100000 in
theorem itrGet_own {w0 : World} {v : Value} {bs : List Int} (h : SrcW w0 v bs) (hl : bs.length ≤ 1000000) :
    Calls Try.prog 15 #[v] w0 fun e w' => ∃ s v', e = .returned (.tuple #[.agg (encD (getI bs).1.1 (getI bs).1.2.1 v' nilV), .int .i64 (getI bs).2]) ∧ Own w0 w' s ∧ SrcR s v' (getI bs).1.2.2 := by
  have hR := Own.start w0
  have hok1 : SrcZ.ok ⟨bs, 0⟩ := ⟨h.ok, fun hn => absurd rfl hn⟩
  obtain ⟨⟨i, s1⟩, hi⟩ : ∃ p, indexZ ⟨bs, 0⟩ = p := ⟨_, rfl⟩
  obtain ⟨⟨q, s2⟩, hq⟩ : ∃ p, numZ s1 2 = p := ⟨_, rfl⟩
  have e1 := index_eat hi
  have e2 := num_eat hq
  have hok2 := e1.ok hok1
  have hok3 := e2.ok hok2
  have hl2 : s1.b.length ≤ 1000000 := Nat.le_trans e1.len hl
  have hl3 : s2.b.length ≤ 1000000 := Nat.le_trans e2.len hl2
  have hib := index_bdZ hok1 hi
  have hqb := num_bdZ hok2 hq
  obtain ⟨o, rfl⟩ := Int.eq_ofNat_of_zero_le hqb.1
  have hob : o ≤ 65535 := by omega
  obtain ⟨A, sF, hF⟩ : ∃ A sF, runG o s2.b.length [] s2 = (A, sF) := ⟨_, _, rfl⟩
  have hrun := runG_runI (o := o) s2.b.length [] s2 hok3 (Nat.le_refl _) (by simp; omega)
  rw [hF] at hrun
  dsimp only at hrun
  have hG : getI bs = if sF.e ≠ 0 then ((0, 0, []), sF.e) else if i = 0 ∨ A = [] then ((0, 0, []), 3) else ((i, o, A), 0) := by
    unfold getI
    rw [hi]
    dsimp only
    rw [hq]
    dsimp only
    rw [Int.toNat_natCast]
    rw [← hrun.1]
    by_cases he : sF.e = 0
    · have hA := hrun.2 (by rw [← hrun.1]; exact he)
      rw [← hA]
      rw [if_neg (show ¬ sF.e ≠ 0 from fun h => h he), if_neg (show ¬ sF.e ≠ 0 from fun h => h he)]
      by_cases h2 : i = 0 ∨ A = []
      · rw [if_pos h2, if_pos h2]; rfl
      · rw [if_neg h2, if_neg h2]; rfl
    · rw [if_pos he, if_pos he, if_neg he]
  obtain ⟨G, hGe⟩ : ∃ G, getI bs = G := ⟨_, rfl⟩
  rw [hGe] at hG ⊢
  have HG := Lib.hid hG
  have HI := Lib.hid hi
  have HQ := Lib.hid hq
  have HF := Lib.hid hF
  have HC := Lib.hid (show IntKind.i64.wrap (o : Int) = (o : Int) from IntWalk.i64_in _ (by omega))
  have HO := Lib.hid (show IntKind.i64.wrap (65536 - (o : Int)) = 65536 - (o : Int) from IntWalk.i64_in _ (by omega))
  clear hi hq hF hrun hG hGe e1 e2 hqb
  go_enter Try.func15, Try.ntmps15
  go_wp2_with (first
    | ((with_reducible apply wpList_make hR zDat); exact rfl; clear hR; intro g w hR; simp only [List.set_cons_succ, List.set_cons_zero]))
  refine (fromG_any hR (src_start h) (fun _ hr => nomatch hr) hl).mono ?_
  rintro e w' ⟨gs, cs, sr, rfl, hO, hS⟩
  clear hR
  have hR := hO
  clear hO
  have hY : ∀ r ∈ sr, r ∈ sr ++ [(g, encD 0 0 nilV nilV, 41)] := fun r hr => List.mem_append_left _ hr
  go_wp2_with fail
  refine (indexX_any hR Les.one hY hS hok1 hl).mono ?_
  rw [HI.out]
  rintro e w' ⟨rfl, cs2, hR2, hS2⟩
  clear hR hS
  have hR := hR2
  clear hR2
  go_wp2_with fail
  refine (wordX_any hR Les.one hY hS2 hok2 hl2).mono ?_
  rw [HQ.out]
  rintro e w' ⟨rfl, cs3, hR3, hS3⟩
  clear hR hS2
  have hR := hR3
  clear hR3
  dsimp only at hS3
  go_upto_region 4 with (first
    | ((with_reducible apply wpList_built); exact rfl; exact rfl; exact bDat2 _ _; (simp only [List.set_cons_succ, List.set_cons_zero]; exact rfl))
    | ((with_reducible apply wpList_make hR zDat); exact rfl; clear hR; intro g5 w hR; simp only [List.set_cons_succ, List.set_cons_zero])
    | ((with_reducible apply wpList_put hR tDat); exact rfl; exact rfl; exact rfl; (focus (repeat (first | apply List.Mem.head | apply List.Mem.tail | apply List.mem_append_right))); exact put_d0 _ rfl _ rfl; exact rfl; simp [encD]; exact one_dat _ _ .nil .nil; (focus (repeat (first | apply Upd.head | apply Upd.tail))); clear hR; intro w hR)
    | ((with_reducible apply q_ls hR); exact rfl; (with_reducible apply t_conv Try.underlying35 Try.underlying3); (apply EvC.now; exact rfl); exact HC.out; (simp only [List.set_cons_succ, List.set_cons_zero]; exact rfl); clear hR; intro w hR)
    | ((with_reducible apply q_ls hR); exact rfl; (with_reducible apply t_numE (op := .sub)); (apply EvC.now; exact rfl); (apply EvC.now; exact rfl); exact rfl; exact HO.out; (simp only [List.set_cons_succ, List.set_cons_zero]; exact rfl); clear hR; intro w hR)
    | ((with_reducible apply q_ls hR); exact rfl; ((with_reducible first | apply t_addr (fRec _ (by decide)) | apply t_addr (fDat _ (by decide)) | apply t_one tByteR | apply t_one tSlR | apply t_one tIntR | apply t_one tWordD | apply t_one tFixD | apply t_part tDat) <;> (first | (apply EvC.gv; exact rfl; (with_reducible first | exact Imp.refl _ | (apply Imp.left; exact Imp.refl _) | (apply Imp.right; exact Imp.refl _) | (apply Imp.left; apply Imp.left; exact Imp.refl _))) | (apply EvC.now; exact rfl) | exact rfl | (with_reducible exact EvAll.nil) | (focus (repeat (first | apply EvAll.cons | exact EvAll.nil | (apply EvC.gv; exact rfl; (with_reducible first | exact Imp.refl _ | (apply Imp.left; exact Imp.refl _) | (apply Imp.right; exact Imp.refl _) | (apply Imp.left; apply Imp.left; exact Imp.refl _))) | (apply EvC.now; exact rfl))); done) | exact ext_dat _ _ _ | (focus (repeat (first | apply List.Mem.head | apply List.Mem.tail | apply List.mem_append_right))))); (simp only [List.set_cons_succ, List.set_cons_zero]; exact rfl); clear hR; intro w hR))
  replace hR := hR.swap
  go_wp2_with fail
  go_loopw [20] (fun _ wr => ∃ (n : Nat) (a : List Int) (sS : SrcZ) (csS : Array Value) (sl Y : List RowT) (va : Value), runG o n a sS = (A, sF) ∧ sS.b.length ≤ n ∧ sS.ok ∧ sS.b.length ≤ 1000000 ∧ (o + a.length ≤ 65536 ∧ bytesOk a) ∧ Sl 5 1 sl va a.length (cellsB a) ∧
    Own w0 wr ((gs, csS, 69) :: (sl ++ ((g5, encD i o va nilV, 41) :: Y))) ∧ SrcObj w0 sr csS sS ∧ (∀ r ∈ sr, r ∈ Y) ∧ (g, encD 0 0 nilV nilV, 41) ∈ Y) (fun _ wr => srcLen gs wr)
  case atStart => exact ⟨s2.b.length, [], s2, cs3, [], sr ++ [(g, encD 0 0 nilV nilV, 41)], nilV, HF.out, Nat.le_refl _, hok3, hl3, ⟨by simp; omega, .nil⟩, Sl.nil _ _, hR, hS3, hY, List.mem_append_right _ (.head _)⟩
  case round =>
    clear hR hS3 hok1 hok2 hok3
    obtain ⟨n, a, sS, csS, sl, Y, va, hrunE, hnl, hokS, hlS, hab, hSl, hR, hSS, hYs, hYg⟩ := hrel
    have hYX : ∀ r ∈ sr, r ∈ sl ++ ((g5, encD i o va nilV, 41) :: Y) := fun r hr => by simp [hYs r hr]
    have HSO := Lib.hid (srcLen_own hR (.head _) hSS (fun r hr => .tail _ (hYX r hr)))
    obtain ⟨a1, n1, c1, rfl⟩ := hSl.shapeIdx
    by_cases hb : sS.b = []
    · have hL : sS.b.length = 0 := by rw [hb]; rfl
      go_upto_if 21 with (first
    | (go_at_call 30; refine (leftX_any hR Les.one hYX hSS hlS).mono ?_; rintro e w' ⟨rfl, hb⟩; replace hR := hR.grow hb; clear hb)
    | ((with_reducible apply q_ls hR); exact rfl; ((with_reducible first | apply t_addr (fRec _ (by decide)) | apply t_addr (fDat _ (by decide)) | apply t_one tByteR | apply t_one tSlR | apply t_one tIntR | apply t_one tWordD | apply t_one tFixD | apply t_part tDat) <;> (first | (apply EvC.gv; exact rfl; (with_reducible first | exact Imp.refl _ | (apply Imp.left; exact Imp.refl _) | (apply Imp.right; exact Imp.refl _) | (apply Imp.left; apply Imp.left; exact Imp.refl _))) | (apply EvC.now; exact rfl) | exact rfl | (with_reducible exact EvAll.nil) | (focus (repeat (first | apply EvAll.cons | exact EvAll.nil | (apply EvC.gv; exact rfl; (with_reducible first | exact Imp.refl _ | (apply Imp.left; exact Imp.refl _) | (apply Imp.right; exact Imp.refl _) | (apply Imp.left; apply Imp.left; exact Imp.refl _))) | (apply EvC.now; exact rfl))); done) | exact ext_dat _ _ _ | (focus (repeat (first | apply List.Mem.head | apply List.Mem.tail | apply List.mem_append_right))))); (simp only [List.set_cons_succ, List.set_cons_zero]; exact rfl); clear hR; intro w hR))
      refine wp_cond_at (nm := false) rfl (by simp [hL]) (fun h => absurd h (by decide)) (fun _ => ?_)
      rw [runG_nil n a hb] at hrunE
      have hEa : A = a := (congrArg Prod.fst hrunE).symm
      have hEs : sF = sS := (congrArg Prod.snd hrunE).symm
      have HG := Lib.hid (show G = if sS.e ≠ 0 then ((0, 0, []), sS.e) else if i = 0 ∨ a = [] then ((0, 0, []), 3) else ((i, o, a), 0) by rw [HG.out, hEa, hEs])
      clear hrunE hEa hEs
      have hYm : ∀ r ∈ [(g, encD 0 0 nilV nilV, 41)], r ∈ Y := fun r hr => by rw [List.mem_singleton.1 hr]; exact hYg
      obtain ⟨Y1, Y2, rfl⟩ := List.append_of_mem hYg
      by_cases he : sS.e = 0
      · have hV := hSl.srcR hab.2
        go_upto_if 36 with (first
    | (go_at_call 32; refine (errX_any hR Les.one hYX hSS).mono ?_; rintro e w' ⟨rfl, hb⟩; replace hR := hR.grow hb; clear hb)
    | ((with_reducible apply q_ls hR); exact rfl; ((with_reducible first | apply t_addr (fRec _ (by decide)) | apply t_addr (fDat _ (by decide)) | apply t_one tByteR | apply t_one tSlR | apply t_one tIntR | apply t_one tWordD | apply t_one tFixD | apply t_part tDat) <;> (first | (apply EvC.gv; exact rfl; (with_reducible first | exact Imp.refl _ | (apply Imp.left; exact Imp.refl _) | (apply Imp.right; exact Imp.refl _) | (apply Imp.left; apply Imp.left; exact Imp.refl _))) | (apply EvC.now; exact rfl) | exact rfl | (with_reducible exact EvAll.nil) | (focus (repeat (first | apply EvAll.cons | exact EvAll.nil | (apply EvC.gv; exact rfl; (with_reducible first | exact Imp.refl _ | (apply Imp.left; exact Imp.refl _) | (apply Imp.right; exact Imp.refl _) | (apply Imp.left; apply Imp.left; exact Imp.refl _))) | (apply EvC.now; exact rfl))); done) | exact ext_dat _ _ _ | (focus (repeat (first | apply List.Mem.head | apply List.Mem.tail | apply List.mem_append_right))))); (simp only [List.set_cons_succ, List.set_cons_zero]; exact rfl); clear hR; intro w hR))
        refine wp_cond_at (nm := false) rfl (by simp [he]) (fun h => absurd h (by decide)) (fun _ => ?_)
        have HG2 := Lib.hid (show G = if i = 0 ∨ a = [] then ((0, 0, []), 3) else ((i, o, a), 0) by rw [HG.out, if_neg (show ¬ sS.e ≠ 0 from fun h => h he)])
        clear HG
        go_upto_region 9 with fail
        refine wp_region_tame hR [0, 1, 2, 3, 4, 5, 6, 7, 8] rfl ?_
        repeat (refine wpT_step rfl ?_; first
    | ((first | (with_reducible apply q_pl) | ((with_reducible apply q_gd); (first | (apply GdBy.gt; exact rfl; exact rfl) | (apply GdBy.gf; exact rfl; exact rfl) | (apply GdBy.t; exact rfl; exact rfl) | (apply GdBy.f; exact rfl; exact rfl)))); (with_reducible apply t_lenSl Try.underlying22); (first | (apply EvC.gv; exact rfl; (with_reducible first | exact Imp.refl _ | (apply Imp.left; exact Imp.refl _) | (apply Imp.right; exact Imp.refl _) | (apply Imp.left; apply Imp.left; exact Imp.refl _))) | (apply EvC.now; exact rfl) | exact rfl | (with_reducible exact EvAll.nil) | (focus (repeat (first | apply EvAll.cons | exact EvAll.nil | (apply EvC.gv; exact rfl; (with_reducible first | exact Imp.refl _ | (apply Imp.left; exact Imp.refl _) | (apply Imp.right; exact Imp.refl _) | (apply Imp.left; apply Imp.left; exact Imp.refl _))) | (apply EvC.now; exact rfl))); done) | exact ext_dat _ _ _ | (focus (repeat (first | apply List.Mem.head | apply List.Mem.tail | apply List.mem_append_right)))); exact hSl; (simp only [List.set_cons_succ, List.set_cons_zero]; exact rfl))
    | ((first | (with_reducible apply q_pl) | ((with_reducible apply q_gd); (first | (apply GdBy.gt; exact rfl; exact rfl) | (apply GdBy.gf; exact rfl; exact rfl) | (apply GdBy.t; exact rfl; exact rfl) | (apply GdBy.f; exact rfl; exact rfl)))); (first | ((with_reducible first | apply t_move | apply t_assign | apply t_and | apply t_or | apply t_cmp | apply t_not | apply t_addr (fRec _ (by decide)) | apply t_addr (fDat _ (by decide)) | apply t_one tByteR | apply t_one tSlR | apply t_one tIntR | apply t_one tWordD | apply t_one tFixD | apply t_part tDat) <;> (first | (apply EvC.gv; exact rfl; (with_reducible first | exact Imp.refl _ | (apply Imp.left; exact Imp.refl _) | (apply Imp.right; exact Imp.refl _) | (apply Imp.left; apply Imp.left; exact Imp.refl _))) | (apply EvC.now; exact rfl) | exact rfl | (with_reducible exact EvAll.nil) | (focus (repeat (first | apply EvAll.cons | exact EvAll.nil | (apply EvC.gv; exact rfl; (with_reducible first | exact Imp.refl _ | (apply Imp.left; exact Imp.refl _) | (apply Imp.right; exact Imp.refl _) | (apply Imp.left; apply Imp.left; exact Imp.refl _))) | (apply EvC.now; exact rfl))); done) | exact ext_dat _ _ _ | (focus (repeat (first | apply List.Mem.head | apply List.Mem.tail | apply List.mem_append_right)))))); (simp only [List.set_cons_succ, List.set_cons_zero]; exact rfl))
    | ((with_reducible apply q_gd); (first | (apply GdBy.gt; exact rfl; exact rfl) | (apply GdBy.gf; exact rfl; exact rfl) | (apply GdBy.t; exact rfl; exact rfl) | (apply GdBy.f; exact rfl; exact rfl)); ((with_reducible apply t_num) <;> (first | (apply EvC.gv; exact rfl; (with_reducible first | exact Imp.refl _ | (apply Imp.left; exact Imp.refl _) | (apply Imp.right; exact Imp.refl _) | (apply Imp.left; apply Imp.left; exact Imp.refl _))) | (apply EvC.now; exact rfl) | exact rfl | (with_reducible exact EvAll.nil) | (focus (repeat (first | apply EvAll.cons | exact EvAll.nil | (apply EvC.gv; exact rfl; (with_reducible first | exact Imp.refl _ | (apply Imp.left; exact Imp.refl _) | (apply Imp.right; exact Imp.refl _) | (apply Imp.left; apply Imp.left; exact Imp.refl _))) | (apply EvC.now; exact rfl))); done) | exact ext_dat _ _ _ | (focus (repeat (first | apply List.Mem.head | apply List.Mem.tail | apply List.mem_append_right))))); (simp only [List.set_cons_succ, List.set_cons_zero]; exact rfl))
    | ((with_reducible apply wpT1_gpure); (first | (apply GdBy.gt; exact rfl; exact rfl) | (apply GdBy.gf; exact rfl; exact rfl) | (apply GdBy.t; exact rfl; exact rfl) | (apply GdBy.f; exact rfl; exact rfl)); intro K hK; go_simp; refine hK _ ?_; clear hK K; simp only [List.set_cons_succ, List.set_cons_zero])
    | ((with_reducible apply wpT1_pure); exact rfl; intro K hK; go_simp; refine hK _ ?_; clear hK K; simp only [List.set_cons_succ, List.set_cons_zero]))
        refine wpT_nil ?_
        clear hR; intro w hR
        go_upto_if 47 with fail
        by_cases hz : i = 0 ∨ a = []
        · have HV := Lib.hid (HG2.out.trans (if_pos hz))
          refine wp_cond_at (nm := true) rfl (by rcases hz with h | h <;> simp [h]) (fun _ => ?_) (fun h => absurd h (by decide))
          clear hz
          repeat (first
    | ((with_reducible apply wpList_built); exact rfl; exact rfl; exact bDatZ; (simp only [List.set_cons_succ, List.set_cons_zero]; exact rfl))
    | ((with_reducible apply wpList_put hR tDat); exact rfl; exact rfl; exact rfl; (focus (repeat (first | apply List.Mem.head | (apply List.mem_append_right) | apply List.Mem.tail))); exact put_d0 _ rfl _ rfl; exact rfl; (simp [encD]); exact one_dat _ _ .nil .nil; exact .tail (Upd.skip _ (.tail (Upd.skip _ .head))); clear hR; intro w hR)
    | ((with_reducible apply q_ls hR); exact rfl; ((with_reducible first | apply t_addr (fRec _ (by decide)) | apply t_addr (fDat _ (by decide)) | apply t_one tByteR | apply t_one tSlR | apply t_one tIntR | apply t_one tWordD | apply t_one tFixD | apply t_part tDat) <;> (first | (apply EvC.gv; exact rfl; (with_reducible first | exact Imp.refl _ | (apply Imp.left; exact Imp.refl _) | (apply Imp.right; exact Imp.refl _) | (apply Imp.left; apply Imp.left; exact Imp.refl _))) | (apply EvC.now; exact rfl) | exact rfl | (with_reducible exact EvAll.nil) | (focus (repeat (first | apply EvAll.cons | exact EvAll.nil | (apply EvC.gv; exact rfl; (with_reducible first | exact Imp.refl _ | (apply Imp.left; exact Imp.refl _) | (apply Imp.right; exact Imp.refl _) | (apply Imp.left; apply Imp.left; exact Imp.refl _))) | (apply EvC.now; exact rfl))); done) | exact ext_dat _ _ _ | (focus (repeat (first | apply List.Mem.head | apply List.Mem.tail | apply List.mem_append_right))))); (simp only [List.set_cons_succ, List.set_cons_zero]; exact rfl); clear hR; intro w hR)
            | go_step)
          (try simp only [Exit.inBlock, Exit.then])
          exact post_row_tmp hR rfl (by rfl) (by rfl) (by (focus (repeat (first | apply List.Mem.head | apply List.Mem.tail | apply List.mem_append_right)))) Try.underlying41 rfl iDat (by rfl) (by rfl) ⟨_, _, by rw [HV.out]; rfl, hR, by rw [HV.out]; exact SrcR.noneI _⟩
        · have HV := Lib.hid (HG2.out.trans (if_neg hz))
          refine wp_cond_at (nm := false) rfl (by simp at hz ⊢; exact hz) (fun h => absurd h (by decide)) (fun _ => ?_)
          clear hz
          repeat (first
    | ((with_reducible apply wpList_put hR tDat); exact rfl; exact rfl; exact rfl; (focus (repeat (first | apply List.Mem.head | (apply List.mem_append_right) | apply List.Mem.tail))); exact put_d0 _ rfl _ rfl; exact rfl; (simp [encD]); exact one_dat _ _ ⟨⟨_, _, _, rfl⟩⟩ .nil; exact .tail (Upd.skip _ (.tail (Upd.skip _ .head))); clear hR; intro w hR)
    | ((with_reducible apply q_ls hR); exact rfl; ((with_reducible first | apply t_addr (fRec _ (by decide)) | apply t_addr (fDat _ (by decide)) | apply t_one tByteR | apply t_one tSlR | apply t_one tIntR | apply t_one tWordD | apply t_one tFixD | apply t_part tDat) <;> (first | (apply EvC.gv; exact rfl; (with_reducible first | exact Imp.refl _ | (apply Imp.left; exact Imp.refl _) | (apply Imp.right; exact Imp.refl _) | (apply Imp.left; apply Imp.left; exact Imp.refl _))) | (apply EvC.now; exact rfl) | exact rfl | (with_reducible exact EvAll.nil) | (focus (repeat (first | apply EvAll.cons | exact EvAll.nil | (apply EvC.gv; exact rfl; (with_reducible first | exact Imp.refl _ | (apply Imp.left; exact Imp.refl _) | (apply Imp.right; exact Imp.refl _) | (apply Imp.left; apply Imp.left; exact Imp.refl _))) | (apply EvC.now; exact rfl))); done) | exact ext_dat _ _ _ | (focus (repeat (first | apply List.Mem.head | apply List.Mem.tail | apply List.mem_append_right))))); (simp only [List.set_cons_succ, List.set_cons_zero]; exact rfl); clear hR; intro w hR)
            | go_step)
          (try simp only [Exit.inBlock, Exit.then])
          exact post_row_tmp hR rfl (by rfl) (by rfl) (by (focus (repeat (first | apply List.Mem.head | apply List.Mem.tail | apply List.mem_append_right)))) Try.underlying41 rfl iDat (by rfl) (by rfl) ⟨sl, _, by rw [HV.out]; rfl, hR.drop (.cons _ (List.sublist_append_left _ _)), by rw [HV.out]; exact hV⟩
      · obtain ⟨x, hx⟩ : ∃ x, sS.e = x := ⟨_, rfl⟩
        have HV := Lib.hid (show G = ((0, 0, []), x) by rw [HG.out, if_pos he, hx])
        have HX := Lib.hid (fun (w : World) (r : List RowT) (hO : Own w0 w ((gs, csS, 69) :: r)) (hr : ∀ y ∈ sr, y ∈ r) => errX_any hO Les.one hr hSS)
        rw [hx] at he HX
        clear hx HG
        go_upto_if 36 with (first
    | (go_at_call 32; refine (HX.out _ _ hR hYX).mono ?_; rintro e w' ⟨rfl, hb⟩; replace hR := hR.grow hb; clear hb)
    | ((with_reducible apply q_ls hR); exact rfl; ((with_reducible first | apply t_addr (fRec _ (by decide)) | apply t_addr (fDat _ (by decide)) | apply t_one tByteR | apply t_one tSlR | apply t_one tIntR | apply t_one tWordD | apply t_one tFixD | apply t_part tDat) <;> (first | (apply EvC.gv; exact rfl; (with_reducible first | exact Imp.refl _ | (apply Imp.left; exact Imp.refl _) | (apply Imp.right; exact Imp.refl _) | (apply Imp.left; apply Imp.left; exact Imp.refl _))) | (apply EvC.now; exact rfl) | exact rfl | (with_reducible exact EvAll.nil) | (focus (repeat (first | apply EvAll.cons | exact EvAll.nil | (apply EvC.gv; exact rfl; (with_reducible first | exact Imp.refl _ | (apply Imp.left; exact Imp.refl _) | (apply Imp.right; exact Imp.refl _) | (apply Imp.left; apply Imp.left; exact Imp.refl _))) | (apply EvC.now; exact rfl))); done) | exact ext_dat _ _ _ | (focus (repeat (first | apply List.Mem.head | apply List.Mem.tail | apply List.mem_append_right))))); (simp only [List.set_cons_succ, List.set_cons_zero]; exact rfl); clear hR; intro w hR))
        refine wp_cond_at (nm := true) rfl (by simp [he]) (fun _ => ?_) (fun h => absurd h (by decide))
        clear he
        repeat (first
    | ((with_reducible apply wpList_built); exact rfl; exact rfl; exact bDatZ; (simp only [List.set_cons_succ, List.set_cons_zero]; exact rfl))
    | ((with_reducible apply wpList_put hR tDat); exact rfl; exact rfl; exact rfl; (focus (repeat (first | apply List.Mem.head | (apply List.mem_append_right) | apply List.Mem.tail))); exact put_d0 _ rfl _ rfl; exact rfl; (simp [encD]); exact one_dat _ _ .nil .nil; exact .tail (Upd.skip _ (.tail (Upd.skip _ .head))); clear hR; intro w hR)
    | ((with_reducible apply q_ls hR); exact rfl; ((with_reducible first | apply t_addr (fRec _ (by decide)) | apply t_addr (fDat _ (by decide)) | apply t_one tByteR | apply t_one tSlR | apply t_one tIntR | apply t_one tWordD | apply t_one tFixD | apply t_part tDat) <;> (first | (apply EvC.gv; exact rfl; (with_reducible first | exact Imp.refl _ | (apply Imp.left; exact Imp.refl _) | (apply Imp.right; exact Imp.refl _) | (apply Imp.left; apply Imp.left; exact Imp.refl _))) | (apply EvC.now; exact rfl) | exact rfl | (with_reducible exact EvAll.nil) | (focus (repeat (first | apply EvAll.cons | exact EvAll.nil | (apply EvC.gv; exact rfl; (with_reducible first | exact Imp.refl _ | (apply Imp.left; exact Imp.refl _) | (apply Imp.right; exact Imp.refl _) | (apply Imp.left; apply Imp.left; exact Imp.refl _))) | (apply EvC.now; exact rfl))); done) | exact ext_dat _ _ _ | (focus (repeat (first | apply List.Mem.head | apply List.Mem.tail | apply List.mem_append_right))))); (simp only [List.set_cons_succ, List.set_cons_zero]; exact rfl); clear hR; intro w hR)
          | go_step)
        (try simp only [Exit.inBlock, Exit.then])
        exact post_row_tmp hR rfl (by rfl) (by rfl) (by (focus (repeat (first | apply List.Mem.head | apply List.Mem.tail | apply List.mem_append_right)))) Try.underlying41 rfl iDat (by rfl) (by rfl) ⟨_, _, by rw [HV.out]; rfl, hR, by rw [HV.out]; exact SrcR.noneI _⟩
    · have hL := List.length_pos_iff.2 hb
      obtain ⟨m, rfl⟩ : ∃ m, n = m + 1 := ⟨n - 1, by omega⟩
      obtain ⟨room, hrm⟩ : ∃ room : Int, (65536 : Int) - o - a.length = room := ⟨_, rfl⟩
      have hr0 : 0 ≤ room := by omega
      have hr1 : room ≤ 65536 := by omega
      have HRM := Lib.hid (show IntKind.i64.wrap ((65536 - (o : Int)) - (a.length : Int)) = room by rw [hrm]; exact IntWalk.i64_in _ (by omega))
      have hro := next_room sS hr0 hr1
      have hgo := next_goes sS room
      have hless := next_less hb hokS room
      unfold runG at hrunE
      rw [if_neg hb, hrm] at hrunE
      obtain ⟨⟨out, s4⟩, hnx⟩ : ∃ p, nextZ sS room = p := ⟨_, rfl⟩
      rw [hnx] at hro hgo hless hrunE
      dsimp only at hro hgo hless hrunE
      have HSTEP := Lib.hid hrunE
      have HNX := Lib.hid hnx
      have hok4 := hgo.ok hokS
      have hl4 : s4.b.length ≤ 1000000 := Nat.le_trans hgo.len hlS
      have hm4 : s4.b.length ≤ m := by omega
      replace hro : o + (a ++ out).length ≤ 65536 := by rw [List.length_append]; omega
      have hao : a.length + out.length ≤ 65536 := by rw [List.length_append] at hro; omega
      clear hrunE hnx hgo hrm
      go_upto_if 21 with (first
    | (go_at_call 30; refine (leftX_any hR Les.one hYX hSS hlS).mono ?_; rintro e w' ⟨rfl, hb⟩; replace hR := hR.grow hb; clear hb)
    | ((with_reducible apply q_ls hR); exact rfl; ((with_reducible first | apply t_addr (fRec _ (by decide)) | apply t_addr (fDat _ (by decide)) | apply t_one tByteR | apply t_one tSlR | apply t_one tIntR | apply t_one tWordD | apply t_one tFixD | apply t_part tDat) <;> (first | (apply EvC.gv; exact rfl; (with_reducible first | exact Imp.refl _ | (apply Imp.left; exact Imp.refl _) | (apply Imp.right; exact Imp.refl _) | (apply Imp.left; apply Imp.left; exact Imp.refl _))) | (apply EvC.now; exact rfl) | exact rfl | (with_reducible exact EvAll.nil) | (focus (repeat (first | apply EvAll.cons | exact EvAll.nil | (apply EvC.gv; exact rfl; (with_reducible first | exact Imp.refl _ | (apply Imp.left; exact Imp.refl _) | (apply Imp.right; exact Imp.refl _) | (apply Imp.left; apply Imp.left; exact Imp.refl _))) | (apply EvC.now; exact rfl))); done) | exact ext_dat _ _ _ | (focus (repeat (first | apply List.Mem.head | apply List.Mem.tail | apply List.mem_append_right))))); (simp only [List.set_cons_succ, List.set_cons_zero]; exact rfl); clear hR; intro w hR))
      refine wp_cond_at (nm := true) rfl (by first | (simp; done) | (simp; omega)) (fun _ => ?_) (fun h => absurd h (by decide))
      go_upto_region 5 with fail
      refine wp_region_some hR [] (List.nil_sublist _) [0, 2, 3, 4] 8 (by kernel_rfl) (by kernel_rfl) (by kernel_rfl) rfl ?_
      clear hR; intro hR
      repeat (refine wpT_step rfl ?_; first
    | ((with_reducible apply q_pl); (with_reducible apply t_addr (fDat _ (by decide))); (apply EvC.now; exact rfl); (simp only [List.set_cons_succ, List.set_cons_zero]; exact rfl))
    | ((with_reducible apply q_pl); (with_reducible apply t_move); (apply EvC.now; exact rfl); (simp only [List.set_cons_succ, List.set_cons_zero]; exact rfl)))
      refine wpT_nil ?_
      refine wpG_two hR (i := 1) (j := 5) (by kernel_rfl) ?_ ?_
      · clear hR; intro w hR
        refine opQ hR rfl rfl (t_one tSlR (EvC.now rfl) (by (focus (repeat (first | apply List.Mem.head | apply List.Mem.tail | apply List.mem_append_right)))) rfl) (by (simp only [List.set_cons_succ, List.set_cons_zero]; exact rfl)) ?_
        clear hR; intro w hR
        refine ⟨hR.drop (List.nil_sublist _), ?_⟩
        refine wpG_one hR (i := 5) (by kernel_rfl) ?_
        clear hR; intro w hR
        refine opQ hR rfl rfl (t_one tSlR (EvC.now rfl) (by (focus (repeat (first | apply List.Mem.head | apply List.Mem.tail | apply List.mem_append_right)))) rfl) (by (simp only [List.set_cons_succ, List.set_cons_zero]; exact rfl)) ?_
        clear hR; intro w hR
        refine ⟨hR.drop (List.nil_sublist _), ?_⟩
        refine wpG_one hR (i := 6) (by kernel_rfl) ?_
        clear hR; intro w hR
        refine opQ hR rfl rfl (t_lenSl Try.underlying22 (EvC.now rfl) hSl) (by (simp only [List.set_cons_succ, List.set_cons_zero]; exact rfl)) ?_
        clear hR; intro w hR
        refine ⟨hR.drop (List.nil_sublist _), ?_⟩
        refine wpG_one hR (i := 7) (by kernel_rfl) ?_
        clear hR; intro w hR
        refine opQ hR rfl rfl (t_numE (op := .sub) (EvC.now rfl) (EvC.now rfl) rfl HRM.out) (by (simp only [List.set_cons_succ, List.set_cons_zero]; exact rfl)) ?_
        clear hR; intro w hR
        refine ⟨hR.drop (List.nil_sublist _), ?_⟩
        refine wpG_one hR (i := 8) (by kernel_rfl) ?_
        clear hR; intro w hR
        refine opCallO hR Try.call31 rfl rfl rfl ?_
        refine (inext_any hR Les.one hYX hSS hokS hlS room hr0 hr1).mono ?_
        rw [HNX.out]
        rintro en w' ⟨v3, s3, rfl, ⟨cs5, hR2, hS5⟩, hV3⟩
        dsimp only at hS5 hV3
        clear hR
        have hR := hR2
        clear hR2
        have hoo : bytesOk out := (hV3 _ _ _ hR (fun r hr => .tail _ (List.mem_append_left _ hr))).ok
        refine ⟨_, rfl, hR.drop (List.nil_sublist _), ?_⟩
        simp only [List.set_cons_succ, List.set_cons_zero]
        refine wpG_appG hR (i := 9) (by kernel_rfl) tBytesB rfl rfl rfl rfl (Les.tail (Les.skip _ Les.head)) hSl (fun w1 h1 => (hV3 _ _ _ h1 (fun r hr => .tail _ (List.mem_append_left _ hr))).rd) (by simp only [maxLen]; omega) (by omega) (List.nil_sublist _) ?_
        clear hR; intro x2 v2 w hR hS2
        simp only [List.set_cons_succ, List.set_cons_zero]
        obtain ⟨a2, n2, c2, hv2⟩ := Sl.shapeIdx hS2
        subst hv2
        refine wpG_addr hR (i := 10) (fDat 2 (by decide)) (by kernel_rfl) rfl rfl (by (simp only [List.set_cons_succ, List.set_cons_zero]; exact rfl)) ?_
        clear hR; intro w hR
        refine wpG_put1 (l' := x2 ++ ((gs, cs5, 69) :: (s3 ++ ((g5, encD i o (.slice a2 n2 c2) nilV, 41) :: Y)))) hR tSlR (i := 11) (by kernel_rfl) rfl rfl rfl (by (focus (repeat (first | apply List.Mem.head | apply List.Mem.tail | apply List.mem_append_right)))) (put_db _ _ _ _) (by simp [encD]) rfl (Upd.skip _ (.tail (Upd.skip _ .head))) (List.nil_sublist _) ?_
        clear hR; intro w hR
        refine wpG_end hR (by kernel_rfl) ?_
        clear hR; intro w hR
        replace hR := (hR.perm (l' := (gs, cs5, 69) :: (x2 ++ (s3 ++ ((g5, encD i o (.slice a2 n2 c2) nilV, 41) :: Y)))) (List.perm_middle.symm))
        replace hR := (hR.perm (l' := (gs, cs5, 69) :: (x2 ++ ((g5, encD i o (.slice a2 n2 c2) nilV, 41) :: (s3 ++ Y)))) (List.Perm.cons _ (List.Perm.append_left x2 List.perm_middle.symm)))
        have HSO2 := Lib.hid (srcLen_own hR (.head _) hS5 (fun r hr => by simp [hYs r hr]))
        have hSo := hS2.castN (m := (a ++ out).length) (by rw [List.length_append]) (cellsB_append a out).symm
        have hbo := hab.2.append hoo
        go_wp2_with fail
        go_round
        case rel => exact ⟨m, a ++ out, s4, cs5, x2, s3 ++ Y, .slice a2 n2 c2, HSTEP.out, hm4, hok4, hl4, ⟨hro, hbo⟩, hSo, hR, hS5, fun r hr => List.mem_append_right _ (hYs r hr), List.mem_append_right _ hYg⟩
        case measure => rw [HSO2.out, HSO.out]; exact hless
      · clear hR; intro w hR
        refine opQ hR rfl rfl (t_one tSlR (EvC.now rfl) (by (focus (repeat (first | apply List.Mem.head | apply List.Mem.tail | apply List.mem_append_right)))) rfl) (by (simp only [List.set_cons_succ, List.set_cons_zero]; exact rfl)) ?_
        clear hR; intro w hR
        refine ⟨hR.drop (List.nil_sublist _), ?_⟩
        refine wpG_two hR (i := 1) (j := 6) (by kernel_rfl) ?_ ?_
        · clear hR; intro w hR
          refine opQ hR rfl rfl (t_one tSlR (EvC.now rfl) (by (focus (repeat (first | apply List.Mem.head | apply List.Mem.tail | apply List.mem_append_right)))) rfl) (by (simp only [List.set_cons_succ, List.set_cons_zero]; exact rfl)) ?_
          clear hR; intro w hR
          refine ⟨hR.drop (List.nil_sublist _), ?_⟩
          refine wpG_one hR (i := 6) (by kernel_rfl) ?_
          clear hR; intro w hR
          refine opQ hR rfl rfl (t_lenSl Try.underlying22 (EvC.now rfl) hSl) (by (simp only [List.set_cons_succ, List.set_cons_zero]; exact rfl)) ?_
          clear hR; intro w hR
          refine ⟨hR.drop (List.nil_sublist _), ?_⟩
          refine wpG_one hR (i := 7) (by kernel_rfl) ?_
          clear hR; intro w hR
          refine opQ hR rfl rfl (t_numE (op := .sub) (EvC.now rfl) (EvC.now rfl) rfl HRM.out) (by (simp only [List.set_cons_succ, List.set_cons_zero]; exact rfl)) ?_
          clear hR; intro w hR
          refine ⟨hR.drop (List.nil_sublist _), ?_⟩
          refine wpG_one hR (i := 8) (by kernel_rfl) ?_
          clear hR; intro w hR
          refine opCallO hR Try.call31 rfl rfl rfl ?_
          refine (inext_any hR Les.one hYX hSS hokS hlS room hr0 hr1).mono ?_
          rw [HNX.out]
          rintro en w' ⟨v3, s3, rfl, ⟨cs5, hR2, hS5⟩, hV3⟩
          dsimp only at hS5 hV3
          clear hR
          have hR := hR2
          clear hR2
          have hoo : bytesOk out := (hV3 _ _ _ hR (fun r hr => .tail _ (List.mem_append_left _ hr))).ok
          refine ⟨_, rfl, hR.drop (List.nil_sublist _), ?_⟩
          simp only [List.set_cons_succ, List.set_cons_zero]
          refine wpG_appG hR (i := 9) (by kernel_rfl) tBytesB rfl rfl rfl rfl (Les.tail (Les.skip _ Les.head)) hSl (fun w1 h1 => (hV3 _ _ _ h1 (fun r hr => .tail _ (List.mem_append_left _ hr))).rd) (by simp only [maxLen]; omega) (by omega) (List.nil_sublist _) ?_
          clear hR; intro x2 v2 w hR hS2
          simp only [List.set_cons_succ, List.set_cons_zero]
          obtain ⟨a2, n2, c2, hv2⟩ := Sl.shapeIdx hS2
          subst hv2
          refine wpG_addr hR (i := 10) (fDat 2 (by decide)) (by kernel_rfl) rfl rfl (by (simp only [List.set_cons_succ, List.set_cons_zero]; exact rfl)) ?_
          clear hR; intro w hR
          refine wpG_put1 (l' := x2 ++ ((gs, cs5, 69) :: (s3 ++ ((g5, encD i o (.slice a2 n2 c2) nilV, 41) :: Y)))) hR tSlR (i := 11) (by kernel_rfl) rfl rfl rfl (by (focus (repeat (first | apply List.Mem.head | apply List.Mem.tail | apply List.mem_append_right)))) (put_db _ _ _ _) (by simp [encD]) rfl (Upd.skip _ (.tail (Upd.skip _ .head))) (List.nil_sublist _) ?_
          clear hR; intro w hR
          refine wpG_end hR (by kernel_rfl) ?_
          clear hR; intro w hR
          replace hR := (hR.perm (l' := (gs, cs5, 69) :: (x2 ++ (s3 ++ ((g5, encD i o (.slice a2 n2 c2) nilV, 41) :: Y)))) (List.perm_middle.symm))
          replace hR := (hR.perm (l' := (gs, cs5, 69) :: (x2 ++ ((g5, encD i o (.slice a2 n2 c2) nilV, 41) :: (s3 ++ Y)))) (List.Perm.cons _ (List.Perm.append_left x2 List.perm_middle.symm)))
          have HSO2 := Lib.hid (srcLen_own hR (.head _) hS5 (fun r hr => by simp [hYs r hr]))
          have hSo := hS2.castN (m := (a ++ out).length) (by rw [List.length_append]) (cellsB_append a out).symm
          have hbo := hab.2.append hoo
          go_wp2_with fail
          go_round
          case rel => exact ⟨m, a ++ out, s4, cs5, x2, s3 ++ Y, .slice a2 n2 c2, HSTEP.out, hm4, hok4, hl4, ⟨hro, hbo⟩, hSo, hR, hS5, fun r hr => List.mem_append_right _ (hYs r hr), List.mem_append_right _ hYg⟩
          case measure => rw [HSO2.out, HSO.out]; exact hless
        · clear hR; intro w hR
          refine opQ hR rfl rfl (t_lenSl Try.underlying22 (EvC.now rfl) hSl) (by (simp only [List.set_cons_succ, List.set_cons_zero]; exact rfl)) ?_
          clear hR; intro w hR
          refine ⟨hR.drop (List.nil_sublist _), ?_⟩
          refine wpG_two hR (i := 1) (j := 7) (by kernel_rfl) ?_ ?_
          · clear hR; intro w hR
            refine opQ hR rfl rfl (t_one tSlR (EvC.now rfl) (by (focus (repeat (first | apply List.Mem.head | apply List.Mem.tail | apply List.mem_append_right)))) rfl) (by (simp only [List.set_cons_succ, List.set_cons_zero]; exact rfl)) ?_
            clear hR; intro w hR
            refine ⟨hR.drop (List.nil_sublist _), ?_⟩
            refine wpG_one hR (i := 7) (by kernel_rfl) ?_
            clear hR; intro w hR
            refine opQ hR rfl rfl (t_numE (op := .sub) (EvC.now rfl) (EvC.now rfl) rfl HRM.out) (by (simp only [List.set_cons_succ, List.set_cons_zero]; exact rfl)) ?_
            clear hR; intro w hR
            refine ⟨hR.drop (List.nil_sublist _), ?_⟩
            refine wpG_one hR (i := 8) (by kernel_rfl) ?_
            clear hR; intro w hR
            refine opCallO hR Try.call31 rfl rfl rfl ?_
            refine (inext_any hR Les.one hYX hSS hokS hlS room hr0 hr1).mono ?_
            rw [HNX.out]
            rintro en w' ⟨v3, s3, rfl, ⟨cs5, hR2, hS5⟩, hV3⟩
            dsimp only at hS5 hV3
            clear hR
            have hR := hR2
            clear hR2
            have hoo : bytesOk out := (hV3 _ _ _ hR (fun r hr => .tail _ (List.mem_append_left _ hr))).ok
            refine ⟨_, rfl, hR.drop (List.nil_sublist _), ?_⟩
            simp only [List.set_cons_succ, List.set_cons_zero]
            refine wpG_appG hR (i := 9) (by kernel_rfl) tBytesB rfl rfl rfl rfl (Les.tail (Les.skip _ Les.head)) hSl (fun w1 h1 => (hV3 _ _ _ h1 (fun r hr => .tail _ (List.mem_append_left _ hr))).rd) (by simp only [maxLen]; omega) (by omega) (List.nil_sublist _) ?_
            clear hR; intro x2 v2 w hR hS2
            simp only [List.set_cons_succ, List.set_cons_zero]
            obtain ⟨a2, n2, c2, hv2⟩ := Sl.shapeIdx hS2
            subst hv2
            refine wpG_addr hR (i := 10) (fDat 2 (by decide)) (by kernel_rfl) rfl rfl (by (simp only [List.set_cons_succ, List.set_cons_zero]; exact rfl)) ?_
            clear hR; intro w hR
            refine wpG_put1 (l' := x2 ++ ((gs, cs5, 69) :: (s3 ++ ((g5, encD i o (.slice a2 n2 c2) nilV, 41) :: Y)))) hR tSlR (i := 11) (by kernel_rfl) rfl rfl rfl (by (focus (repeat (first | apply List.Mem.head | apply List.Mem.tail | apply List.mem_append_right)))) (put_db _ _ _ _) (by simp [encD]) rfl (Upd.skip _ (.tail (Upd.skip _ .head))) (List.nil_sublist _) ?_
            clear hR; intro w hR
            refine wpG_end hR (by kernel_rfl) ?_
            clear hR; intro w hR
            replace hR := (hR.perm (l' := (gs, cs5, 69) :: (x2 ++ (s3 ++ ((g5, encD i o (.slice a2 n2 c2) nilV, 41) :: Y)))) (List.perm_middle.symm))
            replace hR := (hR.perm (l' := (gs, cs5, 69) :: (x2 ++ ((g5, encD i o (.slice a2 n2 c2) nilV, 41) :: (s3 ++ Y)))) (List.Perm.cons _ (List.Perm.append_left x2 List.perm_middle.symm)))
            have HSO2 := Lib.hid (srcLen_own hR (.head _) hS5 (fun r hr => by simp [hYs r hr]))
            have hSo := hS2.castN (m := (a ++ out).length) (by rw [List.length_append]) (cellsB_append a out).symm
            have hbo := hab.2.append hoo
            go_wp2_with fail
            go_round
            case rel => exact ⟨m, a ++ out, s4, cs5, x2, s3 ++ Y, .slice a2 n2 c2, HSTEP.out, hm4, hok4, hl4, ⟨hro, hbo⟩, hSo, hR, hS5, fun r hr => List.mem_append_right _ (hYs r hr), List.mem_append_right _ hYg⟩
            case measure => rw [HSO2.out, HSO.out]; exact hless
          · clear hR; intro w hR
            refine opQ hR rfl rfl (t_numE (op := .sub) (EvC.now rfl) (EvC.now rfl) rfl HRM.out) (by (simp only [List.set_cons_succ, List.set_cons_zero]; exact rfl)) ?_
            clear hR; intro w hR
            refine ⟨hR.drop (List.nil_sublist _), ?_⟩
            refine wpG_two hR (i := 1) (j := 8) (by kernel_rfl) ?_ ?_
            · clear hR; intro w hR
              refine opQ hR rfl rfl (t_one tSlR (EvC.now rfl) (by (focus (repeat (first | apply List.Mem.head | apply List.Mem.tail | apply List.mem_append_right)))) rfl) (by (simp only [List.set_cons_succ, List.set_cons_zero]; exact rfl)) ?_
              clear hR; intro w hR
              refine ⟨hR.drop (List.nil_sublist _), ?_⟩
              refine wpG_one hR (i := 8) (by kernel_rfl) ?_
              clear hR; intro w hR
              refine opCallO hR Try.call31 rfl rfl rfl ?_
              refine (inext_any hR Les.one hYX hSS hokS hlS room hr0 hr1).mono ?_
              rw [HNX.out]
              rintro en w' ⟨v3, s3, rfl, ⟨cs5, hR2, hS5⟩, hV3⟩
              dsimp only at hS5 hV3
              clear hR
              have hR := hR2
              clear hR2
              have hoo : bytesOk out := (hV3 _ _ _ hR (fun r hr => .tail _ (List.mem_append_left _ hr))).ok
              refine ⟨_, rfl, hR.drop (List.nil_sublist _), ?_⟩
              simp only [List.set_cons_succ, List.set_cons_zero]
              refine wpG_appG hR (i := 9) (by kernel_rfl) tBytesB rfl rfl rfl rfl (Les.tail (Les.skip _ Les.head)) hSl (fun w1 h1 => (hV3 _ _ _ h1 (fun r hr => .tail _ (List.mem_append_left _ hr))).rd) (by simp only [maxLen]; omega) (by omega) (List.nil_sublist _) ?_
              clear hR; intro x2 v2 w hR hS2
              simp only [List.set_cons_succ, List.set_cons_zero]
              obtain ⟨a2, n2, c2, hv2⟩ := Sl.shapeIdx hS2
              subst hv2
              refine wpG_addr hR (i := 10) (fDat 2 (by decide)) (by kernel_rfl) rfl rfl (by (simp only [List.set_cons_succ, List.set_cons_zero]; exact rfl)) ?_
              clear hR; intro w hR
              refine wpG_put1 (l' := x2 ++ ((gs, cs5, 69) :: (s3 ++ ((g5, encD i o (.slice a2 n2 c2) nilV, 41) :: Y)))) hR tSlR (i := 11) (by kernel_rfl) rfl rfl rfl (by (focus (repeat (first | apply List.Mem.head | apply List.Mem.tail | apply List.mem_append_right)))) (put_db _ _ _ _) (by simp [encD]) rfl (Upd.skip _ (.tail (Upd.skip _ .head))) (List.nil_sublist _) ?_
              clear hR; intro w hR
              refine wpG_end hR (by kernel_rfl) ?_
              clear hR; intro w hR
              replace hR := (hR.perm (l' := (gs, cs5, 69) :: (x2 ++ (s3 ++ ((g5, encD i o (.slice a2 n2 c2) nilV, 41) :: Y)))) (List.perm_middle.symm))
              replace hR := (hR.perm (l' := (gs, cs5, 69) :: (x2 ++ ((g5, encD i o (.slice a2 n2 c2) nilV, 41) :: (s3 ++ Y)))) (List.Perm.cons _ (List.Perm.append_left x2 List.perm_middle.symm)))
              have HSO2 := Lib.hid (srcLen_own hR (.head _) hS5 (fun r hr => by simp [hYs r hr]))
              have hSo := hS2.castN (m := (a ++ out).length) (by rw [List.length_append]) (cellsB_append a out).symm
              have hbo := hab.2.append hoo
              go_wp2_with fail
              go_round
              case rel => exact ⟨m, a ++ out, s4, cs5, x2, s3 ++ Y, .slice a2 n2 c2, HSTEP.out, hm4, hok4, hl4, ⟨hro, hbo⟩, hSo, hR, hS5, fun r hr => List.mem_append_right _ (hYs r hr), List.mem_append_right _ hYg⟩
              case measure => rw [HSO2.out, HSO.out]; exact hless
            · clear hR; intro w hR
              refine opCallO hR Try.call31 rfl rfl rfl ?_
              refine (inext_any hR Les.one hYX hSS hokS hlS room hr0 hr1).mono ?_
              rw [HNX.out]
              rintro en w' ⟨v3, s3, rfl, ⟨cs5, hR2, hS5⟩, hV3⟩
              dsimp only at hS5 hV3
              clear hR
              have hR := hR2
              clear hR2
              have hoo : bytesOk out := (hV3 _ _ _ hR (fun r hr => .tail _ (List.mem_append_left _ hr))).ok
              refine ⟨_, rfl, hR.drop (List.nil_sublist _), ?_⟩
              simp only [List.set_cons_succ, List.set_cons_zero]
              refine wpG_one hR (i := 1) (by kernel_rfl) ?_
              clear hR; intro w hR
              refine opQ hR rfl rfl (t_one tSlR (EvC.now rfl) (by (focus (repeat (first | apply List.Mem.head | apply List.Mem.tail | apply List.mem_append_right)))) rfl) (by (simp only [List.set_cons_succ, List.set_cons_zero]; exact rfl)) ?_
              clear hR; intro w hR
              refine ⟨hR.drop (List.nil_sublist _), ?_⟩
              refine wpG_appG hR (i := 9) (by kernel_rfl) tBytesB rfl rfl rfl rfl (Les.tail (Les.skip _ Les.head)) hSl (fun w1 h1 => (hV3 _ _ _ h1 (fun r hr => .tail _ (List.mem_append_left _ hr))).rd) (by simp only [maxLen]; omega) (by omega) (List.nil_sublist _) ?_
              clear hR; intro x2 v2 w hR hS2
              simp only [List.set_cons_succ, List.set_cons_zero]
              obtain ⟨a2, n2, c2, hv2⟩ := Sl.shapeIdx hS2
              subst hv2
              refine wpG_addr hR (i := 10) (fDat 2 (by decide)) (by kernel_rfl) rfl rfl (by (simp only [List.set_cons_succ, List.set_cons_zero]; exact rfl)) ?_
              clear hR; intro w hR
              refine wpG_put1 (l' := x2 ++ ((gs, cs5, 69) :: (s3 ++ ((g5, encD i o (.slice a2 n2 c2) nilV, 41) :: Y)))) hR tSlR (i := 11) (by kernel_rfl) rfl rfl rfl (by (focus (repeat (first | apply List.Mem.head | apply List.Mem.tail | apply List.mem_append_right)))) (put_db _ _ _ _) (by simp [encD]) rfl (Upd.skip _ (.tail (Upd.skip _ .head))) (List.nil_sublist _) ?_
              clear hR; intro w hR
              refine wpG_end hR (by kernel_rfl) ?_
              clear hR; intro w hR
              replace hR := (hR.perm (l' := (gs, cs5, 69) :: (x2 ++ (s3 ++ ((g5, encD i o (.slice a2 n2 c2) nilV, 41) :: Y)))) (List.perm_middle.symm))
              replace hR := (hR.perm (l' := (gs, cs5, 69) :: (x2 ++ ((g5, encD i o (.slice a2 n2 c2) nilV, 41) :: (s3 ++ Y)))) (List.Perm.cons _ (List.Perm.append_left x2 List.perm_middle.symm)))
              have HSO2 := Lib.hid (srcLen_own hR (.head _) hS5 (fun r hr => by simp [hYs r hr]))
              have hSo := hS2.castN (m := (a ++ out).length) (by rw [List.length_append]) (cellsB_append a out).symm
              have hbo := hab.2.append hoo
              go_wp2_with fail
              go_round
              case rel => exact ⟨m, a ++ out, s4, cs5, x2, s3 ++ Y, .slice a2 n2 c2, HSTEP.out, hm4, hok4, hl4, ⟨hro, hbo⟩, hSo, hR, hS5, fun r hr => List.mem_append_right _ (hYs r hr), List.mem_append_right _ hYg⟩
              case measure => rw [HSO2.out, HSO.out]; exact hless
theorem itrGet_any {w : World} {v : Value} {bs : List Int} (h : SrcW w v bs) (hl : bs.length ≤ 1000000) :
    Calls Try.prog 15 #[v] w fun e w' => ∃ v', e = .returned (.tuple #[.agg (encD (getI bs).1.1 (getI bs).1.2.1 v' nilV), .int .i64 (getI bs).2]) ∧ Below w.heap.size w w' ∧ SrcW w' v' (getI bs).1.2.2 :=
  (itrGet_own h hl).mono fun e w' ⟨s, v', he, hO, hV⟩ => ⟨v', he, hO.below, hV w w' s hO (fun _ hr => hr)⟩
end Go.Proofs.Ytalgadinoaeihaa
