










/- The contracts of package data: which data may be, their record, and data out of a record. No statement of the seat is proved here. -/
import Derived.Test.YthklhkpikaopfaaDatT
import Derived.Test.YthklhkpikaopfaaCatR
import Derived.Test.YthklhkpikaopfaaEat
import Derived.Deep.DeepCutAuto
import Derived.Deep.CutBlock
namespace Go.Proofs.Ythklhkpikaopfaa
open Go.ChangeShapes Go.WideShapes Go.ChangeAt Go.RowKit
set_option linter.unusedVariables false
set_option linter.unusedSimpArgs false

theorem put_d0 (d : Array Value) (hd : d.size = 4) (c : Array Value) (hc : c.size = 4) : PutRel d 0 c.toList c := putList_all (by simp [hd, hc])
def badD (d : DatZ) : Bool := decide (d.s < 1) || decide (32767 < d.s) || decide (d.b.length < 1) || decide (1024 < d.b.length)
theorem mayD_bad {d : DatZ} (h : badD d = true) : mayD d = false := by
  simp only [badD, Bool.or_eq_true, decide_eq_true_eq] at h
  cases hm : mayD d
  · rfl
  · have := (mayD_iff d).1 hm
    have h1 := this.s; have h2 := this.n
    omega
theorem mayD_good {d : DatZ} (h : badD d = false) : mayD d = decide (d.o + d.b.length ≤ 65536) ∧ d.b.length ≤ 1024 := by
  simp only [badD, Bool.or_eq_false_iff, decide_eq_false_iff_not] at h
  refine ⟨?_, by omega⟩
  unfold mayD
  rw [decide_eq_true (p := 1 ≤ d.s) (by omega), decide_eq_true (p := d.s ≤ 32767) (by omega), decide_eq_true (p := 1 ≤ d.b.length) (by omega), decide_eq_true (p := d.b.length ≤ 1024) (by omega)]
  rfl
set_option maxHeartbeats 1000000 in
theorem datMay_any (d : DatZ) {w0 : World} {v x : Value} (ho : d.ok) (hS : SrcW w0 v d.b) (hl : d.b.length ≤ maxLen) (hx : IsSl x) :
    Calls Try.prog 8 #[.agg (encD d.s d.o v x)] w0 fun e w' => e = .returned (.bool (mayD d)) ∧ Below w0.heap.size w0 w' := by
  have hR := Own.start w0
  obtain ⟨n, hn⟩ : ∃ n, d.b.length = n := ⟨_, rfl⟩
  have hn2 : n ≤ maxLen := by omega
  obtain ⟨a, m, c, rfl⟩ := hx.shape
  have hob := ho.2.1
  go_enter Try.func8, Try.ntmps8
  go_upto_region 2 with (first
    | ((with_reducible apply wpList_box hR); exact rfl; exact rfl; clear hR; intro g w hR; simp only [List.set_cons_succ, List.set_cons_zero])
    | ((with_reducible apply q_ls hR); exact rfl; (with_reducible apply t_lenW Try.underlying23); (apply EvC.now; exact rfl); exact hS; (simp only [List.set_cons_succ, List.set_cons_zero]; exact rfl); clear hR; intro w hR)
    | ((with_reducible apply q_ls hR); exact rfl; ((with_reducible first | apply t_addr (fRec _ (by decide)) | apply t_addr (fDat _ (by decide)) | apply t_one tByteR | apply t_one tSlR | apply t_one tIntR | apply t_one tWordD | apply t_one tFixD | apply t_part tDat) <;> (first | (apply EvC.gv; exact rfl; (with_reducible first | exact Imp.refl _ | (apply Imp.left; exact Imp.refl _) | (apply Imp.right; exact Imp.refl _) | (apply Imp.left; apply Imp.left; exact Imp.refl _))) | (apply EvC.now; exact rfl) | exact rfl | (with_reducible exact EvAll.nil) | (focus (repeat (first | apply EvAll.cons | exact EvAll.nil | (apply EvC.gv; exact rfl; (with_reducible first | exact Imp.refl _ | (apply Imp.left; exact Imp.refl _) | (apply Imp.right; exact Imp.refl _) | (apply Imp.left; apply Imp.left; exact Imp.refl _))) | (apply EvC.now; exact rfl))); done) | exact ext_dat _ _ _ | (focus (repeat (first | apply List.Mem.head | apply List.Mem.tail | apply List.mem_append_right))))); (simp only [List.set_cons_succ, List.set_cons_zero]; exact rfl); clear hR; intro w hR))
  rw [hn]
  refine wp_region_tame hR [0, 1, 2, 3, 4, 5, 6, 7, 8, 9, 10, 11, 12, 13, 14, 15] rfl ?_
  repeat (refine wpT_step rfl ?_; first
    | ((first | (with_reducible apply q_pl) | ((with_reducible apply q_gd); (first | (apply GdBy.gt; exact rfl; exact rfl) | (apply GdBy.gf; exact rfl; exact rfl) | (apply GdBy.t; exact rfl; exact rfl) | (apply GdBy.f; exact rfl; exact rfl)))); (first | ((with_reducible first | apply t_move | apply t_assign | apply t_and | apply t_or | apply t_cmp | apply t_not | apply t_addr (fRec _ (by decide)) | apply t_addr (fDat _ (by decide)) | apply t_one tByteR | apply t_one tSlR | apply t_one tIntR | apply t_one tWordD | apply t_one tFixD | apply t_part tDat) <;> (first | (apply EvC.gv; exact rfl; (with_reducible first | exact Imp.refl _ | (apply Imp.left; exact Imp.refl _) | (apply Imp.right; exact Imp.refl _) | (apply Imp.left; apply Imp.left; exact Imp.refl _))) | (apply EvC.now; exact rfl) | exact rfl | (with_reducible exact EvAll.nil) | (focus (repeat (first | apply EvAll.cons | exact EvAll.nil | (apply EvC.gv; exact rfl; (with_reducible first | exact Imp.refl _ | (apply Imp.left; exact Imp.refl _) | (apply Imp.right; exact Imp.refl _) | (apply Imp.left; apply Imp.left; exact Imp.refl _))) | (apply EvC.now; exact rfl))); done) | exact ext_dat _ _ _ | (focus (repeat (first | apply List.Mem.head | apply List.Mem.tail | apply List.mem_append_right)))))); (simp only [List.set_cons_succ, List.set_cons_zero]; exact rfl))
    | ((with_reducible apply q_gd); (first | (apply GdBy.gt; exact rfl; exact rfl) | (apply GdBy.gf; exact rfl; exact rfl) | (apply GdBy.t; exact rfl; exact rfl) | (apply GdBy.f; exact rfl; exact rfl)); ((with_reducible apply t_num) <;> (first | (apply EvC.gv; exact rfl; (with_reducible first | exact Imp.refl _ | (apply Imp.left; exact Imp.refl _) | (apply Imp.right; exact Imp.refl _) | (apply Imp.left; apply Imp.left; exact Imp.refl _))) | (apply EvC.now; exact rfl) | exact rfl | (with_reducible exact EvAll.nil) | (focus (repeat (first | apply EvAll.cons | exact EvAll.nil | (apply EvC.gv; exact rfl; (with_reducible first | exact Imp.refl _ | (apply Imp.left; exact Imp.refl _) | (apply Imp.right; exact Imp.refl _) | (apply Imp.left; apply Imp.left; exact Imp.refl _))) | (apply EvC.now; exact rfl))); done) | exact ext_dat _ _ _ | (focus (repeat (first | apply List.Mem.head | apply List.Mem.tail | apply List.mem_append_right))))); (simp only [List.set_cons_succ, List.set_cons_zero]; exact rfl))
    | ((with_reducible apply wpT1_gpure); (first | (apply GdBy.gt; exact rfl; exact rfl) | (apply GdBy.gf; exact rfl; exact rfl) | (apply GdBy.t; exact rfl; exact rfl) | (apply GdBy.f; exact rfl; exact rfl)); intro K hK; go_simp; refine hK _ ?_; clear hK K; simp only [List.set_cons_succ, List.set_cons_zero])
    | ((with_reducible apply wpT1_pure); exact rfl; intro K hK; go_simp; refine hK _ ?_; clear hK K; simp only [List.set_cons_succ, List.set_cons_zero]))
  refine wpT_nil ?_
  clear hR; intro w hR
  go_upto_if 22 with fail
  cases hb : badD d
  · obtain ⟨hm, hle⟩ := mayD_good hb
    have HM := Lib.hid hm
    have HC := Lib.hid (show IntKind.i64.wrap (d.o : Int) = (d.o : Int) from IntWalk.i64_in _ (by omega))
    have HA := Lib.hid (show IntKind.i64.wrap ((d.o : Int) + (n : Nat)) = ((d.o + n : Nat) : Int) by rw [← Int.natCast_add]; exact IntWalk.i64_in _ (by omega))
    have HL := Lib.hid (show cmpB .leq ((d.o + n : Nat) : Int) 65536 = some (decide (d.o + n ≤ 65536)) by simp [cmpB]; omega)
    refine wp_cond_at (nm := false) rfl (by unfold badD at hb; rw [hn] at hb; simp at hb ⊢; omega) (fun h => absurd h (by decide)) (fun _ => ?_)
    clear hb hm
    go_wp2_with (first
    | ((with_reducible apply q_ls hR); exact rfl; (with_reducible apply t_conv Try.underlying22 Try.underlying3); (apply EvC.now; exact rfl); exact HC.out; (simp only [List.set_cons_succ, List.set_cons_zero]; exact rfl); clear hR; intro w hR)
    | ((with_reducible apply q_ls hR); exact rfl; (with_reducible apply t_numE (op := .add)); (apply EvC.now; exact rfl); (apply EvC.now; exact rfl); exact rfl; exact HA.out; (simp only [List.set_cons_succ, List.set_cons_zero]; exact rfl); clear hR; intro w hR)
    | ((with_reducible apply q_ls hR); exact rfl; (with_reducible apply t_cmp); (apply EvC.now; exact rfl); (apply EvC.now; exact rfl); exact HL.out; (simp only [List.set_cons_succ, List.set_cons_zero]; exact rfl); clear hR; intro w hR)
    | ((with_reducible apply q_ls hR); exact rfl; ((with_reducible first | apply t_addr (fRec _ (by decide)) | apply t_addr (fDat _ (by decide)) | apply t_one tByteR | apply t_one tSlR | apply t_one tIntR | apply t_one tWordD | apply t_one tFixD | apply t_part tDat) <;> (first | (apply EvC.gv; exact rfl; (with_reducible first | exact Imp.refl _ | (apply Imp.left; exact Imp.refl _) | (apply Imp.right; exact Imp.refl _) | (apply Imp.left; apply Imp.left; exact Imp.refl _))) | (apply EvC.now; exact rfl) | exact rfl | (with_reducible exact EvAll.nil) | (focus (repeat (first | apply EvAll.cons | exact EvAll.nil | (apply EvC.gv; exact rfl; (with_reducible first | exact Imp.refl _ | (apply Imp.left; exact Imp.refl _) | (apply Imp.right; exact Imp.refl _) | (apply Imp.left; apply Imp.left; exact Imp.refl _))) | (apply EvC.now; exact rfl))); done) | exact ext_dat _ _ _ | (focus (repeat (first | apply List.Mem.head | apply List.Mem.tail | apply List.mem_append_right))))); (simp only [List.set_cons_succ, List.set_cons_zero]; exact rfl); clear hR; intro w hR))
    go_ret
    rw [HM.out, hn]
    exact ⟨rfl, hR.below⟩
  · have HM := Lib.hid (mayD_bad hb)
    refine wp_cond_at (nm := true) rfl (by unfold badD at hb; rw [hn] at hb; simp at hb ⊢; omega) (fun _ => ?_) (fun h => absurd h (by decide))
    clear hb
    go_wp2_with (first
    | ((with_reducible apply q_ls hR); exact rfl; ((with_reducible first | apply t_addr (fRec _ (by decide)) | apply t_addr (fDat _ (by decide)) | apply t_one tByteR | apply t_one tSlR | apply t_one tIntR | apply t_one tWordD | apply t_one tFixD | apply t_part tDat) <;> (first | (apply EvC.gv; exact rfl; (with_reducible first | exact Imp.refl _ | (apply Imp.left; exact Imp.refl _) | (apply Imp.right; exact Imp.refl _) | (apply Imp.left; apply Imp.left; exact Imp.refl _))) | (apply EvC.now; exact rfl) | exact rfl | (with_reducible exact EvAll.nil) | (focus (repeat (first | apply EvAll.cons | exact EvAll.nil | (apply EvC.gv; exact rfl; (with_reducible first | exact Imp.refl _ | (apply Imp.left; exact Imp.refl _) | (apply Imp.right; exact Imp.refl _) | (apply Imp.left; apply Imp.left; exact Imp.refl _))) | (apply EvC.now; exact rfl))); done) | exact ext_dat _ _ _ | (focus (repeat (first | apply List.Mem.head | apply List.Mem.tail | apply List.mem_append_right))))); (simp only [List.set_cons_succ, List.set_cons_zero]; exact rfl); clear hR; intro w hR))
    go_ret
    rw [HM.out]
    exact ⟨rfl, hR.below⟩
set_option maxHeartbeats 1000000 in
theorem datPut_any (d : DatZ) {w0 : World} {v x : Value} (ho : d.ok) (hS : SrcW w0 v d.b) (hl : d.b.length ≤ maxLen) (hx : IsSl x) :
    Calls Try.prog 6 #[.agg (encD d.s d.o v x)] w0 fun e w' => RetB w0 w' (fun v => .tuple #[.agg #[.int .u8 (bif mayD d then 160 else 0), v], .bool (mayD d)]) e (bif mayD d then datB d else []) := by
  have hR := Own.start w0
  cases hm : mayD d
  · have HC : Hid (∀ (w : World) (l : List RowT), Own w0 w l → Calls Try.prog 8 #[.agg (encD d.s d.o v x)] w fun e w' => e = .returned (.bool false) ∧ Below w.heap.size w w') := Lib.hid fun w l hO => by have := datMay_any d ho (hS.own hO) hl hx; rwa [hm] at this
    clear hm
    go_enter Try.func6, Try.ntmps6
    go_wp2_with (first
    | ((with_reducible apply wpList_box hR); exact rfl; exact rfl; clear hR; intro g w hR; simp only [List.set_cons_succ, List.set_cons_zero])
    | ((with_reducible apply wpList_make hR zRec); exact rfl; clear hR; intro g w hR; simp only [List.set_cons_succ, List.set_cons_zero])
    | (go_at_call 8; refine (HC.out _ _ hR).mono ?_; rintro e w' ⟨rfl, hb⟩; replace hR := hR.grow hb; clear hb)
    | ((with_reducible apply wpList_built); exact rfl; exact rfl; exact bRecZ; (simp only [List.set_cons_succ, List.set_cons_zero]; exact rfl))
    | ((with_reducible apply wpList_put hR tRec); exact rfl; exact rfl; exact rfl; (focus (repeat (first | apply List.Mem.head | apply List.Mem.tail | apply List.mem_append_right))); exact put_rec _ _ _ _; exact rfl; simp; (simp [Value.oneCell']); (focus (repeat (first | apply Upd.head | apply Upd.tail | apply Upd.skipC))); clear hR; intro w hR)
    | ((with_reducible apply q_ls hR); exact rfl; ((with_reducible first | apply t_addr (fRec _ (by decide)) | apply t_addr (fDat _ (by decide)) | apply t_one tByteR | apply t_one tSlR | apply t_one tIntR | apply t_one tWordD | apply t_one tFixD | apply t_part tDat) <;> (first | (apply EvC.gv; exact rfl; (with_reducible first | exact Imp.refl _ | (apply Imp.left; exact Imp.refl _) | (apply Imp.right; exact Imp.refl _) | (apply Imp.left; apply Imp.left; exact Imp.refl _))) | (apply EvC.now; exact rfl) | exact rfl | (with_reducible exact EvAll.nil) | (focus (repeat (first | apply EvAll.cons | exact EvAll.nil | (apply EvC.gv; exact rfl; (with_reducible first | exact Imp.refl _ | (apply Imp.left; exact Imp.refl _) | (apply Imp.right; exact Imp.refl _) | (apply Imp.left; apply Imp.left; exact Imp.refl _))) | (apply EvC.now; exact rfl))); done) | exact ext_dat _ _ _ | (focus (repeat (first | apply List.Mem.head | apply List.Mem.tail | apply List.mem_append_right))))); (simp only [List.set_cons_succ, List.set_cons_zero]; exact rfl); clear hR; intro w hR))
    (try simp only [Exit.inBlock, Exit.then])
    exact post_row_tmp hR rfl (by rfl) (by rfl) (by (focus (repeat (first | apply List.Mem.head | apply List.Mem.tail | apply List.mem_append_right)))) Try.underlying29 rfl iRec (by rfl) (by rfl) ⟨[], _, rfl, hR.drop (List.nil_sublist _), (Sl.nil 5 1).srcR (bs := []) .nil⟩
  · have hM := (mayD_iff d).1 hm
    have HC : Hid (∀ (w : World) (l : List RowT), Own w0 w l → Calls Try.prog 8 #[.agg (encD d.s d.o v x)] w fun e w' => e = .returned (.bool true) ∧ Below w.heap.size w w') := Lib.hid fun w l hO => by have := datMay_any d ho (hS.own hO) hl hx; rwa [hm] at this
    have hms := hM.s
    have HPS := Lib.hid (fun w => putX_any d.s w (by omega) (by omega))
    have HTO := Lib.hid (fun w => twoX_any d.o w ho.2.1)
    have hls := (idxN_len d.s).2
    have hos := idxN_ok d.s
    have hl2 := bytesN_len d.o 2
    have ho2 := bytesN_ok d.o 2
    have hn2 := hM.n.2
    have hob := ho.2.2
    obtain ⟨a, m, c, rfl⟩ := hS.shape
    clear hm
    go_enter Try.func6, Try.ntmps6
    go_upto_region 3 with (first
    | ((with_reducible apply wpList_box hR); exact rfl; exact rfl; clear hR; intro g0 w hR; simp only [List.set_cons_succ, List.set_cons_zero])
    | ((with_reducible apply wpList_make hR zRec); exact rfl; clear hR; intro g w hR; simp only [List.set_cons_succ, List.set_cons_zero])
    | (go_at_call 8; refine (HC.out _ _ hR).mono ?_; rintro e w' ⟨rfl, hb⟩; replace hR := hR.grow hb; clear hb)
    | ((with_reducible apply q_ls hR); exact rfl; ((with_reducible first | apply t_addr (fRec _ (by decide)) | apply t_addr (fDat _ (by decide)) | apply t_one tByteR | apply t_one tSlR | apply t_one tIntR | apply t_one tWordD | apply t_one tFixD | apply t_part tDat) <;> (first | (apply EvC.gv; exact rfl; (with_reducible first | exact Imp.refl _ | (apply Imp.left; exact Imp.refl _) | (apply Imp.right; exact Imp.refl _) | (apply Imp.left; apply Imp.left; exact Imp.refl _))) | (apply EvC.now; exact rfl) | exact rfl | (with_reducible exact EvAll.nil) | (focus (repeat (first | apply EvAll.cons | exact EvAll.nil | (apply EvC.gv; exact rfl; (with_reducible first | exact Imp.refl _ | (apply Imp.left; exact Imp.refl _) | (apply Imp.right; exact Imp.refl _) | (apply Imp.left; apply Imp.left; exact Imp.refl _))) | (apply EvC.now; exact rfl))); done) | exact ext_dat _ _ _ | (focus (repeat (first | apply List.Mem.head | apply List.Mem.tail | apply List.mem_append_right))))); (simp only [List.set_cons_succ, List.set_cons_zero]; exact rfl); clear hR; intro w hR))
    refine wp_region_some hR [(g0, encD d.s d.o (.slice a m c) x, 26)] (by (focus (repeat (with_reducible first | exact List.Sublist.slnil | exact List.nil_sublist _ | exact List.Sublist.refl _ | exact List.sublist_append_right _ _ | apply List.Sublist.cons_cons | apply List.Sublist.cons | apply sub_rightI)))) [0, 1, 3, 4, 6, 7] 5 (by kernel_rfl) (by kernel_rfl) (by kernel_rfl) rfl ?_
    clear hR; intro hR
    repeat (refine wpT_step rfl ?_; first
    | ((first | (with_reducible apply q_pl) | ((with_reducible apply q_gd); (first | (apply GdBy.gt; exact rfl; exact rfl) | (apply GdBy.gf; exact rfl; exact rfl) | (apply GdBy.t; exact rfl; exact rfl) | (apply GdBy.f; exact rfl; exact rfl)))); (first | ((with_reducible first | apply t_move | apply t_assign | apply t_and | apply t_or | apply t_cmp | apply t_not | apply t_addr (fRec _ (by decide)) | apply t_addr (fDat _ (by decide)) | apply t_one tByteR | apply t_one tSlR | apply t_one tIntR | apply t_one tWordD | apply t_one tFixD | apply t_part tDat) <;> (first | (apply EvC.gv; exact rfl; (with_reducible first | exact Imp.refl _ | (apply Imp.left; exact Imp.refl _) | (apply Imp.right; exact Imp.refl _) | (apply Imp.left; apply Imp.left; exact Imp.refl _))) | (apply EvC.now; exact rfl) | exact rfl | (with_reducible exact EvAll.nil) | (focus (repeat (first | apply EvAll.cons | exact EvAll.nil | (apply EvC.gv; exact rfl; (with_reducible first | exact Imp.refl _ | (apply Imp.left; exact Imp.refl _) | (apply Imp.right; exact Imp.refl _) | (apply Imp.left; apply Imp.left; exact Imp.refl _))) | (apply EvC.now; exact rfl))); done) | exact ext_dat _ _ _ | (focus (repeat (first | apply List.Mem.head | apply List.Mem.tail | apply List.mem_append_right)))))); (simp only [List.set_cons_succ, List.set_cons_zero]; exact rfl)))
    refine wpT_nil ?_
    refine wpG_callO hR (i := 2) (by kernel_rfl) Try.call14 rfl rfl rfl ?_
    clear hR; intro w hR
    refine (HPS.out _).mono ?_
    rintro e w' ⟨s1, v1, rfl, hO, hS1⟩
    replace hR := hR.join hO; clear hO
    refine ⟨_, rfl, hR.drop (by (focus (repeat (with_reducible first | exact List.Sublist.slnil | exact List.nil_sublist _ | exact List.Sublist.refl _ | exact List.sublist_append_right _ _ | apply List.Sublist.cons_cons | apply List.Sublist.cons | apply sub_rightI)))), ?_⟩
    simp only [List.set_cons_succ, List.set_cons_zero]
    obtain ⟨a1, n1, c1, rfl⟩ := hS1.shapeIdx
    refine wpG_callO hR (i := 5) (by kernel_rfl) Try.call15 rfl rfl rfl ?_
    clear hR; intro w hR
    refine (HTO.out _).mono ?_
    rintro e w' ⟨s2, v2, rfl, hO, hS2⟩
    replace hR := hR.join hO; clear hO
    refine ⟨_, rfl, hR.drop (by (focus (repeat (with_reducible first | exact List.Sublist.slnil | exact List.nil_sublist _ | exact List.Sublist.refl _ | exact List.sublist_append_right _ _ | apply List.Sublist.cons_cons | apply List.Sublist.cons | apply sub_rightI)))), ?_⟩
    simp only [List.set_cons_succ, List.set_cons_zero]
    obtain ⟨a2, n2, c2, rfl⟩ := hS2.shapeIdx
    refine wpG_buildS hR (i := 8) (by kernel_rfl) rfl rfl rfl (bCat3) (by (focus (repeat (with_reducible first | exact List.Sublist.slnil | exact List.nil_sublist _ | exact List.Sublist.refl _ | exact List.sublist_append_right _ _ | apply List.Sublist.cons_cons | apply List.Sublist.cons | apply sub_rightI)))) ?_
    clear hR; intro gb w hR
    simp only [List.set_cons_succ, List.set_cons_zero]
    refine wpG_callO hR (i := 9) (by kernel_rfl) Try.call13 rfl rfl rfl ?_
    clear hR; intro w hR
    refine (cat3_row hR (.head _) (hS1.src hR (fun r hr => by simp [hr]) hos) (hS2.src hR (fun r hr => by simp [hr]) ho2) (hS.own hR) (by omega) (by omega) (by omega)).mono ?_
    rintro e w' ⟨s3, v3, rfl, hO, hS3⟩
    replace hR := hR.join hO; clear hO
    refine ⟨_, rfl, hR.drop (by (focus (repeat (with_reducible first | exact List.Sublist.slnil | exact List.nil_sublist _ | exact List.Sublist.refl _ | exact List.sublist_append_right _ _ | apply List.Sublist.cons_cons | apply List.Sublist.cons | apply sub_rightI)))), ?_⟩
    simp only [List.set_cons_succ, List.set_cons_zero]
    refine wpG_slot hR (i := 10) (by kernel_rfl) rfl rfl (by simp only [List.set_cons_succ, List.set_cons_zero]; exact rfl) ?_
    clear hR; intro w hR
    refine wpG_end hR (by kernel_rfl) ?_
    clear hR; intro w hR
    clear hS1 hS2
    go_wp2_with (first
    | ((with_reducible apply wpList_built); exact rfl; exact rfl; exact bRecC _ hS3; (simp only [List.set_cons_succ, List.set_cons_zero]; exact rfl))
    | ((with_reducible apply wpList_put hR tRec); exact rfl; exact rfl; exact rfl; (focus (repeat (first | apply List.Mem.head | apply List.Mem.tail | apply List.mem_append_right))); exact put_rec _ _ _ _; exact rfl; simp; exact one_recC _ hS3; (focus (repeat (first | apply Upd.head | apply Upd.tail | apply Upd.skipC))); clear hR; intro w hR)
    | ((with_reducible apply q_ls hR); exact rfl; ((with_reducible first | apply t_addr (fRec _ (by decide)) | apply t_addr (fDat _ (by decide)) | apply t_one tByteR | apply t_one tSlR | apply t_one tIntR | apply t_one tWordD | apply t_one tFixD | apply t_part tDat) <;> (first | (apply EvC.gv; exact rfl; (with_reducible first | exact Imp.refl _ | (apply Imp.left; exact Imp.refl _) | (apply Imp.right; exact Imp.refl _) | (apply Imp.left; apply Imp.left; exact Imp.refl _))) | (apply EvC.now; exact rfl) | exact rfl | (with_reducible exact EvAll.nil) | (focus (repeat (first | apply EvAll.cons | exact EvAll.nil | (apply EvC.gv; exact rfl; (with_reducible first | exact Imp.refl _ | (apply Imp.left; exact Imp.refl _) | (apply Imp.right; exact Imp.refl _) | (apply Imp.left; apply Imp.left; exact Imp.refl _))) | (apply EvC.now; exact rfl))); done) | exact ext_dat _ _ _ | (focus (repeat (first | apply List.Mem.head | apply List.Mem.tail | apply List.mem_append_right))))); (simp only [List.set_cons_succ, List.set_cons_zero]; exact rfl); clear hR; intro w hR))
    (try simp only [Exit.inBlock, Exit.then])
    exact post_row_tmp hR rfl (by rfl) (by rfl) (by (focus (repeat (first | apply List.Mem.head | apply List.Mem.tail | apply List.mem_append_right)))) Try.underlying29 rfl iRec (by rfl) (by rfl) ⟨s3, _, rfl, hR.drop (List.sublist_append_left _ _), hS3.srcR (datB_ok hob)⟩
theorem take_all {s : SrcZ} (h : s.ok) : takeZ s (s.b.length : Int) = (s.b, ⟨[], s.e⟩) := by
  obtain ⟨b, e⟩ := s
  have := take_in (a := b) (r := []) (e := e) (n := b.length) rfl
  rwa [List.append_nil] at this
theorem bDatZ : Built Try.prog 26 [] (encD 0 0 nilV nilV) := ⟨by kernel_rfl⟩
theorem bDat2 (s : Int) (o : Nat) : Built Try.prog 26 [(0, .int .i64 s), (1, .int .u16 (o : Int))] (encD s o nilV nilV) := ⟨by kernel_rfl⟩
theorem put_dbv (s : Int) (o : Nat) (v x : Value) {u : Value} (h : IsSl u) : PutRel (encD s o v x) 2 [u] (encD s o u x) := by
  obtain ⟨a, n, c, rfl⟩ := h.shape
  exact ⟨rfl⟩
set_option maxHeartbeats 1000000 in
theorem datGet_own {w0 : World} {v : Value} {bs : List Int} (h : SrcW w0 v bs) (hl : bs.length ≤ 1000000) :
    Calls Try.prog 9 #[v] w0 fun e w' => ∃ s v', e = .returned (.tuple #[.agg (encD (datR bs).1.s (datR bs).1.o v' nilV), .int .i64 (datR bs).2]) ∧ Own w0 w' s ∧ SrcR s v' (datR bs).1.b := by
  have hR := Own.start w0
  have hok1 : SrcZ.ok ⟨bs, 0⟩ := ⟨h.ok, fun hn => absurd rfl hn⟩
  obtain ⟨⟨i, s1⟩, hi⟩ : ∃ p, indexZ ⟨bs, 0⟩ = p := ⟨_, rfl⟩
  obtain ⟨⟨q, s2⟩, hq⟩ : ∃ p, numZ s1 2 = p := ⟨_, rfl⟩
  have e1 := index_eat hi
  have e2 := num_eat hq
  have hok2 := e1.ok hok1
  have hok3 := e2.ok hok2
  have hl2 : s1.b.length ≤ 1000000 := Nat.le_trans e1.len hl
  have hl3 : s2.b.length ≤ 1000000 := Nat.le_trans e2.len hl2
  have hib := index_bdZ hok1 hi
  have hqb := num_bdZ hok2 hq
  obtain ⟨o, rfl⟩ := Int.eq_ofNat_of_zero_le hqb.1
  have hob : o ≤ 65535 := by omega
  have hS0 : datS bs = s2 := by unfold datS; rw [hi]; dsimp only; rw [hq]
  have hQ : datQ bs = ⟨i, o, s2.b⟩ := by unfold datQ; rw [hS0, hi]; dsimp only; rw [hq]; simp
  have HR : Hid (datR bs = if s2.e ≠ 0 then (zeroD, s2.e) else if mayD ⟨i, o, s2.b⟩ = true then (⟨i, o, s2.b⟩, 0) else (zeroD, 3)) := Lib.hid (by
    unfold datR datE
    rw [hS0, hQ]
    by_cases h1 : s2.e = 0
    · simp only [h1, ne_eq, not_true_eq_false, if_false]
      by_cases h2 : mayD ⟨i, o, s2.b⟩ = true
      · simp [h2]
      · simp [h2]
    · simp [h1])
  have HI := Lib.hid hi
  have HQ := Lib.hid hq
  have HT := Lib.hid (take_all hok3)
  obtain ⟨x, hx⟩ : ∃ x, s2.e = x := ⟨_, rfl⟩
  have HX := Lib.hid hx
  rw [hx] at HR
  have hbt := hok3.1
  clear hi hq hS0 hQ e1 e2 hqb hx
  go_enter Try.func9, Try.ntmps9
  go_wp2_with (first
    | ((with_reducible apply wpList_make hR zDat); exact rfl; clear hR; intro g w hR; simp only [List.set_cons_succ, List.set_cons_zero]))
  refine (fromG_any hR (src_start h) (fun _ hr => nomatch hr) hl).mono ?_
  rintro e w' ⟨gs, cs, sr, rfl, hO, hS⟩
  clear hR
  have hR := hO
  clear hO
  have hY : ∀ r ∈ sr, r ∈ sr ++ [(g, encD 0 0 nilV nilV, 26)] := fun r hr => List.mem_append_left _ hr
  go_wp2_with fail
  refine (indexX_any hR Les.one hY hS hok1 hl).mono ?_
  rw [HI.out]
  rintro e w' ⟨rfl, cs2, hR2, hS2⟩
  clear hR hS
  have hR := hR2
  clear hR2
  go_wp2_with fail
  refine (wordX_any hR Les.one hY hS2 hok2 hl2).mono ?_
  rw [HQ.out]
  rintro e w' ⟨rfl, cs3, hR3, hS3⟩
  clear hR hS2
  have hR := hR3
  clear hR3
  go_upto_region 5 with (first
    | ((with_reducible apply wpList_built); exact rfl; exact rfl; exact bDat2 _ _; (simp only [List.set_cons_succ, List.set_cons_zero]; exact rfl))
    | ((with_reducible apply wpList_make hR zDat); exact rfl; clear hR; intro g2 w hR; simp only [List.set_cons_succ, List.set_cons_zero])
    | ((with_reducible apply wpList_put hR tDat); exact rfl; exact rfl; exact rfl; (focus (repeat (first | apply List.Mem.head | apply List.Mem.tail | apply List.mem_append_right))); exact put_d0 _ rfl _ rfl; exact rfl; simp [encD]; exact one_dat _ _ .nil .nil; (focus (repeat (first | apply Upd.head | apply Upd.tail | apply Upd.skipC))); clear hR; intro w hR)
    | (go_at_call 20; refine (leftX_any hR (Les.tail Les.one) (fun r hr => .tail _ (List.mem_append_left _ hr)) hS3 hl3).mono ?_; rintro e w' ⟨rfl, hb⟩; replace hR := hR.grow hb; clear hb)
    | (go_at_call 19; refine (takeX_any hR (Les.tail Les.one) (fun r hr => .tail _ (List.mem_append_left _ hr)) hS3 hok3 hl3 _ (by omega) (by omega)).mono ?_; rw [HT.out]; rintro e w' ⟨vt, rfl, ⟨cs4, hR4, hS4⟩, hvt⟩; clear hR hS3; have hR := hR4; clear hR4; have hsl : IsSl vt := (hvt _ _ _ hR (fun r hr => .tail _ (.tail _ (List.mem_append_left _ hr)))).isSl; (obtain ⟨a5, n5, c5, rfl⟩ := hsl.shape))
    | ((with_reducible apply wpList_put1 hR tSlR); exact rfl; exact rfl; exact rfl; (focus (repeat (first | apply List.Mem.head | apply List.Mem.tail | apply List.mem_append_right))); (exact put_db _ _ _ _); (simp [encD]); exact rfl; (focus (repeat (first | apply Upd.head | apply Upd.tail | apply Upd.skipC))); clear hR; intro w hR)
    | (go_at_call 21; refine (errX_any hR Les.one (fun r hr => .tail _ (List.mem_append_left _ hr)) hS4).mono ?_; rw [HX.out]; rintro e w' ⟨rfl, hb⟩; replace hR := hR.grow hb; clear hb)
    | ((with_reducible apply q_ls hR); exact rfl; ((with_reducible first | apply t_addr (fRec _ (by decide)) | apply t_addr (fDat _ (by decide)) | apply t_one tByteR | apply t_one tSlR | apply t_one tIntR | apply t_one tWordD | apply t_one tFixD | apply t_part tDat) <;> (first | (apply EvC.gv; exact rfl; (with_reducible first | exact Imp.refl _ | (apply Imp.left; exact Imp.refl _) | (apply Imp.right; exact Imp.refl _) | (apply Imp.left; apply Imp.left; exact Imp.refl _))) | (apply EvC.now; exact rfl) | exact rfl | (with_reducible exact EvAll.nil) | (focus (repeat (first | apply EvAll.cons | exact EvAll.nil | (apply EvC.gv; exact rfl; (with_reducible first | exact Imp.refl _ | (apply Imp.left; exact Imp.refl _) | (apply Imp.right; exact Imp.refl _) | (apply Imp.left; apply Imp.left; exact Imp.refl _))) | (apply EvC.now; exact rfl))); done) | exact ext_dat _ _ _ | (focus (repeat (first | apply List.Mem.head | apply List.Mem.tail | apply List.mem_append_right))))); (simp only [List.set_cons_succ, List.set_cons_zero]; exact rfl); clear hR; intro w hR))
  clear HX
  by_cases hx : x = 0
  · have HE := Lib.hid (show cmpB .neq x 0 = some false by simp [cmpB, hx])
    cases hm : mayD ⟨i, o, s2.b⟩
    · have HV := Lib.hid (show datR bs = (zeroD, 3) by rw [HR.out, if_neg (by simp [hx]), hm]; rfl)
      have HC : Hid (∀ (w : World) (l : List RowT), Own w0 w l → (∀ r ∈ sr, r ∈ l) → Calls Try.prog 8 #[.agg (encD i o (.slice a5 n5 c5) nilV)] w fun e w' => e = .returned (.bool false) ∧ Below w.heap.size w w') := Lib.hid fun w l hO hs => by
        have := datMay_any ⟨i, o, s2.b⟩ ⟨by dsimp only; omega, hob, hbt⟩ (hvt _ _ _ hO hs) (by dsimp only; unfold maxLen; omega) .nil
        rwa [hm] at this
      clear hx hm HR
      go_wp2_with (first
    | ((with_reducible apply q_ls hR); exact rfl; (with_reducible apply t_cmp); (apply EvC.now; exact rfl); (apply EvC.now; exact rfl); exact HE.out; (simp only [List.set_cons_succ, List.set_cons_zero]; exact rfl); clear hR; intro w hR)
    | (go_at_call 8; refine (HC.out _ _ hR (fun r hr => .tail _ (.tail _ (List.mem_append_left _ hr)))).mono ?_; rintro e w' ⟨rfl, hb⟩; replace hR := hR.grow hb; clear hb)
    | ((with_reducible apply wpList_built); exact rfl; exact rfl; exact bDatZ; (simp only [List.set_cons_succ, List.set_cons_zero]; exact rfl))
    | ((with_reducible apply wpList_put hR tDat); exact rfl; exact rfl; exact rfl; (focus (repeat (first | apply List.Mem.head | apply List.Mem.tail | apply List.mem_append_right))); exact put_d0 _ rfl _ rfl; exact rfl; simp [encD]; exact one_dat _ _ .nil .nil; (focus (repeat (first | apply Upd.head | apply Upd.tail | apply Upd.skipC))); clear hR; intro w hR)
    | ((with_reducible apply q_ls hR); exact rfl; ((with_reducible first | apply t_addr (fRec _ (by decide)) | apply t_addr (fDat _ (by decide)) | apply t_one tByteR | apply t_one tSlR | apply t_one tIntR | apply t_one tWordD | apply t_one tFixD | apply t_part tDat) <;> (first | (apply EvC.gv; exact rfl; (with_reducible first | exact Imp.refl _ | (apply Imp.left; exact Imp.refl _) | (apply Imp.right; exact Imp.refl _) | (apply Imp.left; apply Imp.left; exact Imp.refl _))) | (apply EvC.now; exact rfl) | exact rfl | (with_reducible exact EvAll.nil) | (focus (repeat (first | apply EvAll.cons | exact EvAll.nil | (apply EvC.gv; exact rfl; (with_reducible first | exact Imp.refl _ | (apply Imp.left; exact Imp.refl _) | (apply Imp.right; exact Imp.refl _) | (apply Imp.left; apply Imp.left; exact Imp.refl _))) | (apply EvC.now; exact rfl))); done) | exact ext_dat _ _ _ | (focus (repeat (first | apply List.Mem.head | apply List.Mem.tail | apply List.mem_append_right))))); (simp only [List.set_cons_succ, List.set_cons_zero]; exact rfl); clear hR; intro w hR))
      (try simp only [Exit.inBlock, Exit.then])
      exact post_row_tmp hR rfl (by rfl) (by rfl) (by (focus (repeat (first | apply List.Mem.head | apply List.Mem.tail | apply List.mem_append_right)))) Try.underlying26 rfl iDat (by rfl) (by rfl) ⟨_, _, by rw [HV.out]; rfl, hR, by rw [HV.out]; exact SrcR.noneI _⟩
    · have HV := Lib.hid (show datR bs = (⟨i, o, s2.b⟩, 0) by rw [HR.out, if_neg (by simp [hx]), if_pos hm])
      have HC : Hid (∀ (w : World) (l : List RowT), Own w0 w l → (∀ r ∈ sr, r ∈ l) → Calls Try.prog 8 #[.agg (encD i o (.slice a5 n5 c5) nilV)] w fun e w' => e = .returned (.bool true) ∧ Below w.heap.size w w') := Lib.hid fun w l hO hs => by
        have := datMay_any ⟨i, o, s2.b⟩ ⟨by dsimp only; omega, hob, hbt⟩ (hvt _ _ _ hO hs) (by dsimp only; unfold maxLen; omega) .nil
        rwa [hm] at this
      clear hx hm HR
      go_wp2_with (first
    | ((with_reducible apply q_ls hR); exact rfl; (with_reducible apply t_cmp); (apply EvC.now; exact rfl); (apply EvC.now; exact rfl); exact HE.out; (simp only [List.set_cons_succ, List.set_cons_zero]; exact rfl); clear hR; intro w hR)
    | (go_at_call 8; refine (HC.out _ _ hR (fun r hr => .tail _ (.tail _ (List.mem_append_left _ hr)))).mono ?_; rintro e w' ⟨rfl, hb⟩; replace hR := hR.grow hb; clear hb)
    | ((with_reducible apply wpList_put hR tDat); exact rfl; exact rfl; exact rfl; (focus (repeat (first | apply List.Mem.head | apply List.Mem.tail | apply List.mem_append_right))); exact put_d0 _ rfl _ rfl; exact rfl; simp [encD]; exact one_dat _ _ hsl .nil; (focus (repeat (first | apply Upd.head | apply Upd.tail | apply Upd.skipC))); clear hR; intro w hR)
    | ((with_reducible apply q_ls hR); exact rfl; ((with_reducible first | apply t_addr (fRec _ (by decide)) | apply t_addr (fDat _ (by decide)) | apply t_one tByteR | apply t_one tSlR | apply t_one tIntR | apply t_one tWordD | apply t_one tFixD | apply t_part tDat) <;> (first | (apply EvC.gv; exact rfl; (with_reducible first | exact Imp.refl _ | (apply Imp.left; exact Imp.refl _) | (apply Imp.right; exact Imp.refl _) | (apply Imp.left; apply Imp.left; exact Imp.refl _))) | (apply EvC.now; exact rfl) | exact rfl | (with_reducible exact EvAll.nil) | (focus (repeat (first | apply EvAll.cons | exact EvAll.nil | (apply EvC.gv; exact rfl; (with_reducible first | exact Imp.refl _ | (apply Imp.left; exact Imp.refl _) | (apply Imp.right; exact Imp.refl _) | (apply Imp.left; apply Imp.left; exact Imp.refl _))) | (apply EvC.now; exact rfl))); done) | exact ext_dat _ _ _ | (focus (repeat (first | apply List.Mem.head | apply List.Mem.tail | apply List.mem_append_right))))); (simp only [List.set_cons_succ, List.set_cons_zero]; exact rfl); clear hR; intro w hR))
      (try simp only [Exit.inBlock, Exit.then])
      exact post_row_tmp hR rfl (by rfl) (by rfl) (by (focus (repeat (first | apply List.Mem.head | apply List.Mem.tail | apply List.mem_append_right)))) Try.underlying26 rfl iDat (by rfl) (by rfl) ⟨_, _, by rw [HV.out]; rfl, hR.drop (l' := sr) (((List.sublist_append_left _ _).cons _).cons _), by rw [HV.out]; exact hvt⟩
  · have HE := Lib.hid (show cmpB .neq x 0 = some true by simp [cmpB, hx])
    have HV := Lib.hid (show datR bs = (zeroD, x) by rw [HR.out, if_pos hx])
    clear hx HR
    go_wp2_with (first
    | ((with_reducible apply q_ls hR); exact rfl; (with_reducible apply t_cmp); (apply EvC.now; exact rfl); (apply EvC.now; exact rfl); exact HE.out; (simp only [List.set_cons_succ, List.set_cons_zero]; exact rfl); clear hR; intro w hR)
    | ((with_reducible apply wpList_built); exact rfl; exact rfl; exact bDatZ; (simp only [List.set_cons_succ, List.set_cons_zero]; exact rfl))
    | ((with_reducible apply wpList_put hR tDat); exact rfl; exact rfl; exact rfl; (focus (repeat (first | apply List.Mem.head | apply List.Mem.tail | apply List.mem_append_right))); exact put_d0 _ rfl _ rfl; exact rfl; simp [encD]; exact one_dat _ _ .nil .nil; (focus (repeat (first | apply Upd.head | apply Upd.tail | apply Upd.skipC))); clear hR; intro w hR)
    | ((with_reducible apply q_ls hR); exact rfl; ((with_reducible first | apply t_addr (fRec _ (by decide)) | apply t_addr (fDat _ (by decide)) | apply t_one tByteR | apply t_one tSlR | apply t_one tIntR | apply t_one tWordD | apply t_one tFixD | apply t_part tDat) <;> (first | (apply EvC.gv; exact rfl; (with_reducible first | exact Imp.refl _ | (apply Imp.left; exact Imp.refl _) | (apply Imp.right; exact Imp.refl _) | (apply Imp.left; apply Imp.left; exact Imp.refl _))) | (apply EvC.now; exact rfl) | exact rfl | (with_reducible exact EvAll.nil) | (focus (repeat (first | apply EvAll.cons | exact EvAll.nil | (apply EvC.gv; exact rfl; (with_reducible first | exact Imp.refl _ | (apply Imp.left; exact Imp.refl _) | (apply Imp.right; exact Imp.refl _) | (apply Imp.left; apply Imp.left; exact Imp.refl _))) | (apply EvC.now; exact rfl))); done) | exact ext_dat _ _ _ | (focus (repeat (first | apply List.Mem.head | apply List.Mem.tail | apply List.mem_append_right))))); (simp only [List.set_cons_succ, List.set_cons_zero]; exact rfl); clear hR; intro w hR))
    (try simp only [Exit.inBlock, Exit.then])
    exact post_row_tmp hR rfl (by rfl) (by rfl) (by (focus (repeat (first | apply List.Mem.head | apply List.Mem.tail | apply List.mem_append_right)))) Try.underlying26 rfl iDat (by rfl) (by rfl) ⟨_, _, by rw [HV.out]; rfl, hR, by rw [HV.out]; exact SrcR.noneI _⟩
/-- Bytes that a call returns: there as long as those handed in are there and its own new rows are. -/
def Along (s : List RowT) (v : Value) (bs : List Int) (v' : Value) (bs' : List Int) : Prop := ∀ (wb w : World) (l : List RowT), Own wb w l → (∀ r ∈ s, r ∈ l) → SrcW w v bs → SrcW w v' bs'
theorem datGet_al {w : World} {v : Value} {bs : List Int} (h : SrcW w v bs) (hl : bs.length ≤ 1000000) :
    Calls Try.prog 9 #[v] w fun e w' => ∃ s v', e = .returned (.tuple #[.agg (encD (datR bs).1.s (datR bs).1.o v' nilV), .int .i64 (datR bs).2]) ∧ Own w w' s ∧ Along s v bs v' (datR bs).1.b :=
  (datGet_own h hl).mono fun e w' ⟨s, v', he, hO, hV⟩ => ⟨s, v', he, hO, fun wb w l hR hs _ => hV wb w l hR hs⟩
end Go.Proofs.Ythklhkpikaopfaa
