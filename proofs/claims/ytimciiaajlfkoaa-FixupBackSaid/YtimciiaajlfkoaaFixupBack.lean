/- The law FixupBack (fixups, one behind the other, are read as they; cut, bytes are missing) returns true whatever the arguments, and each argument reads afterwards as before. There is no condition on the arguments. -/
import Derived.Test.YtimciiaajlfkoaaRows
import Derived.Test.YtimciiaajlfkoaaLaw25
import Derived.Test.YtimciiaajlfkoaaFixC
import Derived.Test.YtimciiaajlfkoaaAppG
import Derived.WalkKit
import Derived.ProofKit
import Derived.OpenShut
import Derived.ShutString
import Derived.ChangeOld
import Derived.Below
namespace Go.Proofs.Ytimciiaajlfkoaa.fixupBack
open Go.ChangeShapes Go.WideShapes Go.ChangeAt Go.RowKit
open Go.ChangeMaps (open_string shut_string)
set_option linter.unusedVariables false
set_option linter.unusedSimpArgs false

theorem own : ownKnob Try.prog.godebug = none := by kernel_rfl
theorem laidOut : laidOutB Try.prog = true := by kernel_rfl










theorem litE : (⟨#[]⟩ : ByteArray) = strOfNums [] := rfl
theorem l0F : cmpB .eql (([] : List FixZ).length : Int) 0 = some true := rfl
theorem c20 : cmpB .eql 2 0 = some false := rfl
def takeB (k : Int) (l : List FixZ) (j : Nat) : List FixZ := (l.take j).map fun f => nearF f k 200 5 30
theorem takeB_more {k : Int} {l : List FixZ} {j : Nat} {f : FixZ} (h : l[j]? = some f) : takeB k l (j + 1) = takeB k l j ++ [nearF f k 200 5 30] := by
  unfold takeB; rw [List.take_add_one, h]; simp
theorem takeB_len {k : Int} {l : List FixZ} {j : Nat} (h : j ≤ l.length) : (takeB k l j).length = j := by
  unfold takeB; rw [List.length_map, List.length_take]; omega
theorem m200 : ManyOk 200 5 30 := ⟨by decide, by decide, by decide⟩
theorem b200 : Built Try.prog 26 [(0, .int .i64 200), (1, .int .i64 5), (2, .int .i64 30)] (encM 200 5 30) := ⟨by kernel_rfl⟩
theorem takeB_may {k : Int} (hk : 4 ≤ k) {l : List FixZ} (hl : ∀ f ∈ l, f.ok) {j : Nat} : ∀ x ∈ takeB k l j, MayF x k ∧ x.d ≤ 65535 := by
  intro x hx
  obtain ⟨f, hf, rfl⟩ := List.mem_map.1 hx
  exact ⟨near_mayF f hk m200, (hl f (List.mem_of_mem_take hf)).d⟩
def LoopIs (w0 : World) (k : Int) (l : List FixZ) (x s i : Value) (wr : World) : Prop :=
  ∃ (j : Nat) (sl : List RowT), i = .int .i64 j ∧ j ≤ 12 ∧ j ≤ l.length ∧ s = .string (strOfNums ((takeB k l j).flatMap putF)) ∧ Own w0 wr (sl ++ []) ∧ Sl 24 8 sl x j ((takeB k l j).flatMap cellsF)
set_option maxHeartbeats 8000000 in
set_option maxRecDepth 100000 in
theorem walk {w0 : World} (v0 : Value) (hA : FixesIn w0 v0) (ni : Int) (hni : (Lit.int .i64 ni).wf = true) (cut : Int) (hcut : (Lit.int .i64 cut).wf = true) (wi : World) :
    Calls Try.prog 4 #[v0, .int .i64 ni, .int .i64 cut] w0 fun e w' => e = .returned (.bool true) ∧ Below w0.heap.size w0 w' := by
  clear wi
  obtain ⟨l, hlo, hl⟩ := hA
  have hR := Own.start w0
  obtain ⟨k, hk⟩ : ∃ k, ni % 4096 + 4 = k := ⟨_, rfl⟩
  have hkb : 4 ≤ k ∧ k ≤ 4099 := by omega
  have HK := Lib.hid (show bits .and .i64 ni 4095 = ni % 4096 from i64_mask ni 12 4095 (by decide) (by decide))
  have HK1 := Lib.hid (show IntKind.i64.wrap (ni % 4096 + 4) = k by rw [IntWalk.i64_in _ (by omega)]; exact hk)
  clear hk hni
  go_enter Try.func4, Try.ntmps4
  go_wp2_with (first
    | ((with_reducible apply q_ls hR); exact rfl; (with_reducible apply t_numE); (apply EvC.now; exact rfl); (apply EvC.now; exact rfl); exact rfl; (with_reducible first | exact HK.out | exact HK1.out); (simp only [List.set_cons_succ, List.set_cons_zero]; exact rfl); clear hR; intro w hR)
    | ((with_reducible apply wpList_buildS hR); exact rfl; exact rfl; (exact bFixes0); clear hR; intro gx w hR; simp only [List.set_cons_succ, List.set_cons_zero]))
  clear HK HK1
  go_loopw [8, 9, 10] (fun x s i wr => LoopIs w0 k l x s i wr) (fun _ _ i _ => 12 - (intOf i).toNat)
  case atStart => exact ⟨0, _, rfl, by decide, Nat.zero_le _, rfl, hR, (RwIs.all rfl (by decide)).sl⟩
  case round =>
    clear hR
    obtain ⟨j, sl, rfl, hj12, hjl, rfl, hR, hS⟩ := hrel
    go_upto_region 4 with fail
    refine wp_region_tame hR [0, 1, 2, 3, 4, 5, 6, 7] rfl ?_
    repeat (refine wpT_step rfl ?_; first
    | ((with_reducible apply q_pl); (with_reducible apply t_lenRd Try.underlying34); (apply EvC.now; exact rfl); exact hl; (simp only [List.set_cons_succ, List.set_cons_zero]; exact rfl))
    | ((first | (with_reducible apply q_pl) | ((with_reducible apply q_gd); (first | (apply GdBy.gt; exact rfl; exact rfl) | (apply GdBy.gf; exact rfl; exact rfl) | (apply GdBy.t; exact rfl; exact rfl) | (apply GdBy.f; exact rfl; exact rfl)))); (first | ((with_reducible first | apply t_move | apply t_assign | apply t_and | apply t_or | apply t_cmp | apply t_not | apply t_addr (fRec _ (by decide)) | apply t_addr (fFix _ (by decide)) | apply t_one tByteR | apply t_one tSlR | apply t_one tIntR | apply t_one tWordF | apply t_one tBoolF | apply t_part tFix) <;> (first | (apply EvC.gv; exact rfl; (with_reducible first | exact Imp.refl _ | (apply Imp.left; exact Imp.refl _) | (apply Imp.right; exact Imp.refl _) | (apply Imp.left; apply Imp.left; exact Imp.refl _))) | (apply EvC.now; exact rfl) | exact rfl | (with_reducible exact EvAll.nil) | (focus (repeat (first | apply EvAll.cons | exact EvAll.nil | (apply EvC.gv; exact rfl; (with_reducible first | exact Imp.refl _ | (apply Imp.left; exact Imp.refl _) | (apply Imp.right; exact Imp.refl _) | (apply Imp.left; apply Imp.left; exact Imp.refl _))) | (apply EvC.now; exact rfl))); done) | exact ext_fix _ | (focus (repeat (first | apply List.Mem.head | apply List.Mem.tail | apply List.mem_append_right)))))); (simp only [List.set_cons_succ, List.set_cons_zero]; exact rfl))
    | ((with_reducible apply q_gd); (first | (apply GdBy.gt; exact rfl; exact rfl) | (apply GdBy.gf; exact rfl; exact rfl) | (apply GdBy.t; exact rfl; exact rfl) | (apply GdBy.f; exact rfl; exact rfl)); ((with_reducible apply t_num) <;> (first | (apply EvC.gv; exact rfl; (with_reducible first | exact Imp.refl _ | (apply Imp.left; exact Imp.refl _) | (apply Imp.right; exact Imp.refl _) | (apply Imp.left; apply Imp.left; exact Imp.refl _))) | (apply EvC.now; exact rfl) | exact rfl | (with_reducible exact EvAll.nil) | (focus (repeat (first | apply EvAll.cons | exact EvAll.nil | (apply EvC.gv; exact rfl; (with_reducible first | exact Imp.refl _ | (apply Imp.left; exact Imp.refl _) | (apply Imp.right; exact Imp.refl _) | (apply Imp.left; apply Imp.left; exact Imp.refl _))) | (apply EvC.now; exact rfl))); done) | exact ext_fix _ | (focus (repeat (first | apply List.Mem.head | apply List.Mem.tail | apply List.mem_append_right))))); (simp only [List.set_cons_succ, List.set_cons_zero]; exact rfl))
    | ((with_reducible apply wpT1_gpure); (first | (apply GdBy.gt; exact rfl; exact rfl) | (apply GdBy.gf; exact rfl; exact rfl) | (apply GdBy.t; exact rfl; exact rfl) | (apply GdBy.f; exact rfl; exact rfl)); intro K hK; go_simp; refine hK _ ?_; clear hK K; simp only [List.set_cons_succ, List.set_cons_zero])
    | ((with_reducible apply wpT1_pure); exact rfl; intro K hK; go_simp; refine hK _ ?_; clear hK K; simp only [List.set_cons_succ, List.set_cons_zero]))
    refine wpT_nil ?_
    clear hR; intro w hR
    go_upto_if 30 with fail
    refine wp_cond_at (nm := decide ((j : Int) < (l.length : Int)) && decide ((j : Int) < 12)) rfl rfl (fun h => ?_) (fun h => ?_)
    · simp only [Bool.and_eq_true, decide_eq_true_eq] at h
      have hlt : j < l.length := by omega
      have h12 : j < 12 := by omega
      clear h
      obtain ⟨f, hf⟩ : ∃ f, l[j]? = some f := ⟨_, List.getElem?_eq_getElem hlt⟩
      have hfo := hlo f (List.mem_of_getElem? hf)
      obtain ⟨a, cap, rfl, hc⟩ := hl.el cellsF_len hf
      have HC := Lib.hid (show ∀ q u, (encF f).toList[q]? = some u → w0.cell? ((a.add ((j : Int).toNat * 8)).add q) = some u by rw [Int.toNat_natCast]; exact hc)
      have HTM := Lib.hid (takeB_more (k := k) hf)
      have hTl := takeB_len (k := k) hjl
      have hsl := putFs_len (takeB k l j)
      have hNm := near_mayF f (n := k) hkb.1 m200
      have HNEAR := Lib.hid (fun w => r25near_any f hfo k 200 5 30 (by omega) m200 w)
      have HPUT := Lib.hid (fun w => r25put_any (nearF f k 200 5 30) k hNm hfo.d w)
      have hpl := (putF_len (nearF f k 200 5 30)).2
      have HCT := Lib.hid (show (takeB k l j).flatMap putF ++ putF (nearF f k 200 5 30) = (takeB k l (j + 1)).flatMap putF by rw [HTM.out, List.flatMap_append]; simp)
      obtain ⟨N, hN⟩ : ∃ N, nearF f k 200 5 30 = N := ⟨_, rfl⟩
      rw [hN] at HTM HNEAR HPUT hpl HCT
      clear hc hf hN hNm
      go_upto_region 7 with (first
    | ((with_reducible apply q_ls hR); exact rfl; (with_reducible apply t_six Try.underlying34 iFix); (apply EvC.now; exact rfl); (apply EvC.now; exact rfl); (constructor <;> omega); (simp only [List.set_cons_succ, List.set_cons_zero]; exact rfl); clear hR; intro w hR)
    | ((with_reducible apply q_ls hR); exact rfl; (with_reducible apply t_oldMany tFix); (apply EvC.now; exact rfl); exact HC.out; exact rfl; (simp only [List.set_cons_succ, List.set_cons_zero]; exact rfl); clear hR; intro w hR)
    | ((with_reducible apply wpList_built); exact rfl; exact rfl; exact b200; (simp only [List.set_cons_succ, List.set_cons_zero]; exact rfl))
    | (go_at_call 7; refine (HNEAR.out _).mono ?_; rintro e w' ⟨rfl, hb⟩; replace hR := hR.grow hb; clear hb)
    | ((with_reducible apply wpList_buildS hR); exact rfl; exact rfl; (exact bFixes1 _); clear hR; intro gb w hR; simp only [List.set_cons_succ, List.set_cons_zero])
    | ((with_reducible apply wpList_appG hR tFixesB); exact rfl; exact rfl; exact rfl; exact hS; (exact Les.tail Les.head); (exact rd_one (z := N) cellsF_len cellsF_one hR (.head _)); (simp only [maxLen]; omega); omega; clear hR hS; intro s2 v2 w hR hS; simp only [List.set_cons_succ, List.set_cons_zero]))
      have hS' : Sl 24 8 s2 v2 (j + 1) ((takeB k l (j + 1)).flatMap cellsF) := by rw [HTM.out, List.flatMap_append]; exact hS.cast (by simp)
      clear hS
      have hlen1 : (takeB k l (j + 1)).length = j + 1 := takeB_len hlt
      have hat : (takeB k l (j + 1))[j]? = some N := by rw [HTM.out, List.getElem?_append_right (by omega)]; simp [hTl]
      have hrow : ∀ w lw, Own w0 w lw → (∀ r ∈ s2, r ∈ lw) → RowsAt 8 cellsF w v2 (takeB k l (j + 1)) := fun w lw hC hs => Sl.rowsAt cellsF_one (by rw [hlen1]; exact hS') hC hs
      obtain ⟨a2, c2, hv2, _⟩ := (hrow _ _ hR (fun r h => List.mem_append_left _ h)).el cellsF_len hat
      rw [hlen1] at hv2
      have HM5 := Lib.hid (show ∀ w lw, Own w0 w lw → (∀ r ∈ s2, r ∈ lw) → ∀ q u, (encF N).toList[q]? = some u → w.cell? ((a2.add ((j : Int).toNat * 8)).add q) = some u from fun w lw hC hs => by
        rw [Int.toNat_natCast]
        have h5 := hrow w lw hC hs
        rw [hv2] at h5
        exact h5.cell cellsF_len hat)
      have hsx : ∀ (y : RowT) (lw : List RowT), ∀ r ∈ s2, r ∈ s2 ++ (y :: lw) := fun y lw r h => List.mem_append_left _ h
      have HL : ((takeB k l j).flatMap putF).length + (putF N).length ≤ 1000000 := by omega
      subst hv2
      clear hrow hat
      go_wp2_with (first
    | ((with_reducible apply q_ls hR); exact rfl; (with_reducible apply t_six Try.underlying34 iFix); (apply EvC.now; exact rfl); (apply EvC.now; exact rfl); (constructor <;> omega); (simp only [List.set_cons_succ, List.set_cons_zero]; exact rfl); clear hR; intro w hR)
    | ((with_reducible apply q_ls hR); exact rfl; (with_reducible apply t_manyW tFix); (apply EvC.now; exact rfl); (exact fun w hC => HM5.out w _ hC (hsx _ _)); exact rfl; (simp only [List.set_cons_succ, List.set_cons_zero]; exact rfl); clear hR; intro w hR)
    | (go_at_call 12; refine (HPUT.out _).mono ?_; rintro e w' ⟨rfl, hb⟩; replace hR := hR.grow hb; clear hb)
    | ((with_reducible apply q_ls hR); exact rfl; (with_reducible apply t_catE); (apply EvC.now; exact rfl); (apply EvC.now; exact rfl); exact HL; exact HCT.out; (simp only [List.set_cons_succ, List.set_cons_zero]; exact rfl); clear hR; intro w hR)
    | ((with_reducible apply q_ls hR); exact rfl; ((with_reducible first | apply t_addr (fRec _ (by decide)) | apply t_addr (fFix _ (by decide)) | apply t_one tByteR | apply t_one tSlR | apply t_one tIntR | apply t_one tWordF | apply t_one tBoolF | apply t_part tFix) <;> (first | (apply EvC.gv; exact rfl; (with_reducible first | exact Imp.refl _ | (apply Imp.left; exact Imp.refl _) | (apply Imp.right; exact Imp.refl _) | (apply Imp.left; apply Imp.left; exact Imp.refl _))) | (apply EvC.now; exact rfl) | exact rfl | (with_reducible exact EvAll.nil) | (focus (repeat (first | apply EvAll.cons | exact EvAll.nil | (apply EvC.gv; exact rfl; (with_reducible first | exact Imp.refl _ | (apply Imp.left; exact Imp.refl _) | (apply Imp.right; exact Imp.refl _) | (apply Imp.left; apply Imp.left; exact Imp.refl _))) | (apply EvC.now; exact rfl))); done) | exact ext_fix _ | (focus (repeat (first | apply List.Mem.head | apply List.Mem.tail | apply List.mem_append_right))))); (simp only [List.set_cons_succ, List.set_cons_zero]; exact rfl); clear hR; intro w hR))
      go_round
      case rel => exact ⟨j + 1, s2, rfl, by omega, by omega, rfl, hR.drop ((List.Sublist.refl s2).append (.cons _ (List.Sublist.refl _))), hS'⟩
      case measure => simp [intOf]; omega
    · clear h hl
      have hXl := takeB_len (k := k) hjl
      have hXm := takeB_may (k := k) (j := j) hkb.1 hlo
      obtain ⟨X, hX⟩ : ∃ X, takeB k l j = X := ⟨_, rfl⟩
      rw [hX] at hXl hXm hS ⊢
      clear hX hjl hlo
      subst hXl
      have hxr : RowsAt 8 cellsF _ _ X := hS.rowsAt cellsF_one hR (fun r hr => List.mem_append_left _ hr)
      have hbl := putFs_len X
      have hbo := putFs_ok fun f hf => (hXm f hf).1
      have HBACK := Lib.hid (getF_back hXm ths0)
      have HCUT := Lib.hid (fun q hq => getF_cut (n := k) (X := X) hXm (q := q) hq)
      clear hS
      have hZ2 := (Since.start w0).own hR
      have hR2 := hR.fresh
      clear hR
      try clear hZ
      have hZ := hZ2
      have hR := hR2
      clear hZ2 hR2
      go_wp2_with fail
      refine (fixRecord_any k (hxr.own hR) hXm (by omega)).mono ?_
      rintro e w1 h1
      obtain ⟨v1, rfl, hb, hV⟩ := h1.now
      replace hxr := (hxr.own hR).keep hb
      clear h1
      replace hR := hR.grow hb
      have hZ2 := (hZ).own hR
      clear hR hb
      try clear hZ
      have hZ := hZ2
      clear hZ2
      have hR := Own.start w1
      obtain ⟨bs, hbs⟩ : ∃ bs, X.flatMap putF = bs := ⟨_, rfl⟩
      rw [hbs] at hV hbl hbo HBACK HCUT ⊢
      clear hbs
      go_upto_region 9 with (first
    | ((with_reducible apply wpList_make hR zRec); exact rfl; clear hR; intro g w hR; simp only [List.set_cons_succ, List.set_cons_zero])
    | ((with_reducible apply wpList_put hR tRec); exact rfl; exact rfl; exact rfl; (focus (repeat (first | apply List.Mem.head | apply List.Mem.tail | apply List.mem_append_right))); exact put_rec _ _ _ _; exact rfl; simp; exact one_rec _ hV; (focus (repeat (first | apply Upd.head | apply Upd.tail))); clear hR; intro w hR))
      go_wp2_with (first
    | ((with_reducible apply wpList_built); exact rfl; exact rfl; exact bThs0; (simp only [List.set_cons_succ, List.set_cons_zero]; exact rfl))
    | ((with_reducible apply q_ls hR); exact rfl; ((with_reducible first | apply t_addr (fRec _ (by decide)) | apply t_addr (fFix _ (by decide)) | apply t_one tByteR | apply t_one tSlR | apply t_one tIntR | apply t_one tWordF | apply t_one tBoolF | apply t_part tFix) <;> (first | (apply EvC.gv; exact rfl; (with_reducible first | exact Imp.refl _ | (apply Imp.left; exact Imp.refl _) | (apply Imp.right; exact Imp.refl _) | (apply Imp.left; apply Imp.left; exact Imp.refl _))) | (apply EvC.now; exact rfl) | exact rfl | (with_reducible exact EvAll.nil) | (focus (repeat (first | apply EvAll.cons | exact EvAll.nil | (apply EvC.gv; exact rfl; (with_reducible first | exact Imp.refl _ | (apply Imp.left; exact Imp.refl _) | (apply Imp.right; exact Imp.refl _) | (apply Imp.left; apply Imp.left; exact Imp.refl _))) | (apply EvC.now; exact rfl))); done) | exact ext_fix _ | (focus (repeat (first | apply List.Mem.head | apply List.Mem.tail | apply List.mem_append_right))))); (simp only [List.set_cons_succ, List.set_cons_zero]; exact rfl); clear hR; intro w hR))
      refine (fixGet_any k ths0 (hV.own hR) (by omega) (by omega) ths0_ok).mono ?_
      rw [HBACK.out]
      rintro e w2 ⟨v2, rfl, hb, hY⟩
      have hAt := (hR.at (.head _)).keep hb
      replace hV := (hV.own hR).keep hb
      replace hxr := (hxr.own hR).keep hb
      replace hR := hR.grow hb
      have hZ2 := (hZ).own hR
      clear hR hb
      try clear hZ
      have hZ := hZ2
      clear hZ2
      have hR := Own.start w2
      have hT := hAt.get
      go_upto_region 10 with (first
    | ((with_reducible apply wpList_make hR zThs); exact rfl; clear hR; intro g13 w hR; simp only [List.set_cons_succ, List.set_cons_zero])
    | ((with_reducible apply wpList_put hR tThs); exact rfl; exact rfl; exact rfl; (focus (repeat (first | apply List.Mem.head | apply List.Mem.tail | apply List.mem_append_right))); exact put_ths _ rfl ths0_ok; exact rfl; simp [encThs, cellsThs_len ths0_ok]; exact one_ths _; (focus (repeat (first | apply Upd.head | apply Upd.tail))); clear hR; intro w hR))
      refine wp_region_tame hR [0, 1, 2, 3, 4, 5, 6, 7, 8, 9, 10, 11, 12, 13, 14, 15, 16, 17, 18, 19, 20, 21, 22, 23, 24, 25] rfl ?_
      repeat (refine wpT_step rfl ?_; first
    | ((with_reducible apply q_kn); exact rfl; (with_reducible apply t_strW tTextN); (apply EvC.now; exact rfl); (exact fun w hC => hV.own hC); (simp only [List.set_cons_succ, List.set_cons_zero]; exact rfl))
    | ((with_reducible apply q_kn); exact rfl; (with_reducible apply t_strsameN); (apply EvC.now; exact rfl); (apply EvC.now; exact rfl); (simp only [List.set_cons_succ, List.set_cons_zero]; exact rfl))
    | ((with_reducible apply q_kn); exact rfl; (with_reducible first | apply t_old tByteR hT | apply t_old tSlR hT); (apply EvC.now; exact rfl); exact rfl; (simp only [List.set_cons_succ, List.set_cons_zero]; exact rfl))
    | ((with_reducible apply q_kn); exact rfl; (with_reducible apply t_lenRd Try.underlying34); (apply EvC.now; exact rfl); (first | exact hY | exact hxr); (simp only [List.set_cons_succ, List.set_cons_zero]; exact rfl))
    | ((with_reducible apply q_kn); exact rfl; (with_reducible apply t_cmp); (apply EvC.now; exact rfl); (apply EvC.now; exact rfl); exact cmp_nselfS _; (simp only [List.set_cons_succ, List.set_cons_zero]; exact rfl))
    | ((with_reducible apply q_kn); exact rfl; (with_reducible apply t_built); exact rfl; exact bThs0; (simp only [List.set_cons_succ, List.set_cons_zero]; exact rfl))
    | ((with_reducible apply q_kn); exact rfl; (with_reducible apply t_part tThs); (apply EvC.now; exact rfl); (exact .head _); exact ext_ths ths0_ok; exact encThs_size ths0_ok; (simp only [List.set_cons_succ, List.set_cons_zero]; exact rfl))
    | ((with_reducible apply q_kn); exact rfl; (with_reducible apply t_nel gThs); (apply EvC.now; exact rfl); (apply EvC.now; exact rfl); exact eqThs0; (simp only [List.set_cons_succ, List.set_cons_zero]; exact rfl))
    | ((with_reducible apply q_kn); exact rfl; (first | ((with_reducible first | apply t_move | apply t_assign | apply t_addr (fRec _ (by decide)) | apply t_addr (fFix _ (by decide)) | apply t_one tByteR | apply t_one tSlR | apply t_one tIntR | apply t_one tWordF | apply t_one tBoolF | apply t_part tFix) <;> (first | (apply EvC.gv; exact rfl; (with_reducible first | exact Imp.refl _ | (apply Imp.left; exact Imp.refl _) | (apply Imp.right; exact Imp.refl _) | (apply Imp.left; apply Imp.left; exact Imp.refl _))) | (apply EvC.now; exact rfl) | exact rfl | (with_reducible exact EvAll.nil) | (focus (repeat (first | apply EvAll.cons | exact EvAll.nil | (apply EvC.gv; exact rfl; (with_reducible first | exact Imp.refl _ | (apply Imp.left; exact Imp.refl _) | (apply Imp.right; exact Imp.refl _) | (apply Imp.left; apply Imp.left; exact Imp.refl _))) | (apply EvC.now; exact rfl))); done) | exact ext_fix _ | (focus (repeat (first | apply List.Mem.head | apply List.Mem.tail | apply List.mem_append_right))))) | ((with_reducible apply t_pick); (apply EvC.now; exact rfl); (apply EvC.now; exact rfl))); (simp only [List.set_cons_succ, List.set_cons_zero]; exact rfl)))
      refine wpT_nil ?_
      clear hR; intro w hR
      go_upto_if 86 with fail
      refine wp_cond_at (nm := false) rfl rfl (fun h => absurd h (by decide)) (fun _ => ?_)
      clear hV hT hAt HBACK
      obtain ⟨ay, ny, cy, rfl⟩ := hY.shape
      obtain ⟨ax, nx, cx, hu8⟩ := hxr.shape
      subst hu8
      go_wp2_with fail
      go_loopw [15] (fun i wr => ∃ j : Nat, i = .int .i64 j ∧ j ≤ X.length ∧ Own w2 wr [(g13, encThs ths0, 42)]) (fun i _ => X.length - (intOf i).toNat)
      case atStart => exact ⟨0, rfl, Nat.zero_le _, hR⟩
      case round =>
        clear hR
        obtain ⟨j, rfl, hj, hR⟩ := hrel
        go_upto_region 13 with fail
        refine wp_region_tame hR [0, 1, 2, 3] rfl ?_
        repeat (refine wpT_step rfl ?_; first
    | ((with_reducible apply q_pl); (with_reducible apply t_lenRd Try.underlying34); (apply EvC.now; exact rfl); exact hxr; (simp only [List.set_cons_succ, List.set_cons_zero]; exact rfl))
    | ((first | (with_reducible apply q_pl) | ((with_reducible apply q_gd); (first | (apply GdBy.gt; exact rfl; exact rfl) | (apply GdBy.gf; exact rfl; exact rfl) | (apply GdBy.t; exact rfl; exact rfl) | (apply GdBy.f; exact rfl; exact rfl)))); (first | ((with_reducible first | apply t_move | apply t_assign | apply t_and | apply t_or | apply t_cmp | apply t_not | apply t_addr (fRec _ (by decide)) | apply t_addr (fFix _ (by decide)) | apply t_one tByteR | apply t_one tSlR | apply t_one tIntR | apply t_one tWordF | apply t_one tBoolF | apply t_part tFix) <;> (first | (apply EvC.gv; exact rfl; (with_reducible first | exact Imp.refl _ | (apply Imp.left; exact Imp.refl _) | (apply Imp.right; exact Imp.refl _) | (apply Imp.left; apply Imp.left; exact Imp.refl _))) | (apply EvC.now; exact rfl) | exact rfl | (with_reducible exact EvAll.nil) | (focus (repeat (first | apply EvAll.cons | exact EvAll.nil | (apply EvC.gv; exact rfl; (with_reducible first | exact Imp.refl _ | (apply Imp.left; exact Imp.refl _) | (apply Imp.right; exact Imp.refl _) | (apply Imp.left; apply Imp.left; exact Imp.refl _))) | (apply EvC.now; exact rfl))); done) | exact ext_fix _ | (focus (repeat (first | apply List.Mem.head | apply List.Mem.tail | apply List.mem_append_right)))))); (simp only [List.set_cons_succ, List.set_cons_zero]; exact rfl))
    | ((with_reducible apply q_gd); (first | (apply GdBy.gt; exact rfl; exact rfl) | (apply GdBy.gf; exact rfl; exact rfl) | (apply GdBy.t; exact rfl; exact rfl) | (apply GdBy.f; exact rfl; exact rfl)); ((with_reducible apply t_num) <;> (first | (apply EvC.gv; exact rfl; (with_reducible first | exact Imp.refl _ | (apply Imp.left; exact Imp.refl _) | (apply Imp.right; exact Imp.refl _) | (apply Imp.left; apply Imp.left; exact Imp.refl _))) | (apply EvC.now; exact rfl) | exact rfl | (with_reducible exact EvAll.nil) | (focus (repeat (first | apply EvAll.cons | exact EvAll.nil | (apply EvC.gv; exact rfl; (with_reducible first | exact Imp.refl _ | (apply Imp.left; exact Imp.refl _) | (apply Imp.right; exact Imp.refl _) | (apply Imp.left; apply Imp.left; exact Imp.refl _))) | (apply EvC.now; exact rfl))); done) | exact ext_fix _ | (focus (repeat (first | apply List.Mem.head | apply List.Mem.tail | apply List.mem_append_right))))); (simp only [List.set_cons_succ, List.set_cons_zero]; exact rfl))
    | ((with_reducible apply wpT1_gpure); (first | (apply GdBy.gt; exact rfl; exact rfl) | (apply GdBy.gf; exact rfl; exact rfl) | (apply GdBy.t; exact rfl; exact rfl) | (apply GdBy.f; exact rfl; exact rfl)); intro K hK; go_simp; refine hK _ ?_; clear hK K; simp only [List.set_cons_succ, List.set_cons_zero])
    | ((with_reducible apply wpT1_pure); exact rfl; intro K hK; go_simp; refine hK _ ?_; clear hK K; simp only [List.set_cons_succ, List.set_cons_zero]))
        refine wpT_nil ?_
        clear hR; intro w hR
        go_upto_if 90 with fail
        by_cases hjl : j < X.length
        · refine wp_cond_at (nm := true) rfl (by simp; omega) (fun _ => ?_) (fun h => absurd h (by decide))
          obtain ⟨f, hf⟩ : ∃ f, X[j]? = some f := ⟨_, List.getElem?_eq_getElem hjl⟩
          obtain ⟨ay', cy', hvy, hcy⟩ := hY.el cellsF_len hf
          obtain ⟨ax', cx', hvx, hcx⟩ := hxr.el cellsF_len hf
          injection hvy with e1 e2 e3
          injection hvx with e4 e5 e6
          subst e1 e2 e3 e4 e5 e6
          have HYM := Lib.hid (show ∀ q u, (encF f).toList[q]? = some u → w2.cell? ((ay'.add ((j : Int).toNat * 8)).add q) = some u by rw [Int.toNat_natCast]; exact hcy)
          have HXM := Lib.hid (show ∀ q u, (encF f).toList[q]? = some u → w2.cell? ((ax'.add ((j : Int).toNat * 8)).add q) = some u by rw [Int.toNat_natCast]; exact hcx)
          clear hcy hcx hf
          go_upto_region 15 with fail
          refine wp_region_rows hR [0, 1, 2, 3, 4, 5, 6, 7, 8] 0 (by kernel_rfl) (by kernel_rfl) (by kernel_rfl) rfl ?_
          clear hR; intro hR
          repeat (refine wpT_step rfl ?_; first
    | ((with_reducible apply q_kn); exact rfl; (with_reducible apply t_six Try.underlying34 iFix); (apply EvC.now; exact rfl); (apply EvC.now; exact rfl); (constructor <;> omega); (simp only [List.set_cons_succ, List.set_cons_zero]; exact rfl))
    | ((with_reducible apply q_kn); exact rfl; (with_reducible apply t_oldMany tFix); (apply EvC.now; exact rfl); (with_reducible first | exact HYM.out | exact HXM.out); exact rfl; (simp only [List.set_cons_succ, List.set_cons_zero]; exact rfl))
    | ((with_reducible apply q_kn); exact rfl; (with_reducible apply t_nel gFix); (apply EvC.now; exact rfl); (apply EvC.now; exact rfl); exact eqF_self _; (simp only [List.set_cons_succ, List.set_cons_zero]; exact rfl))
    | ((with_reducible apply q_kn); exact rfl; (first | ((with_reducible first | apply t_move | apply t_assign | apply t_addr (fRec _ (by decide)) | apply t_addr (fFix _ (by decide)) | apply t_one tByteR | apply t_one tSlR | apply t_one tIntR | apply t_one tWordF | apply t_one tBoolF | apply t_part tFix) <;> (first | (apply EvC.gv; exact rfl; (with_reducible first | exact Imp.refl _ | (apply Imp.left; exact Imp.refl _) | (apply Imp.right; exact Imp.refl _) | (apply Imp.left; apply Imp.left; exact Imp.refl _))) | (apply EvC.now; exact rfl) | exact rfl | (with_reducible exact EvAll.nil) | (focus (repeat (first | apply EvAll.cons | exact EvAll.nil | (apply EvC.gv; exact rfl; (with_reducible first | exact Imp.refl _ | (apply Imp.left; exact Imp.refl _) | (apply Imp.right; exact Imp.refl _) | (apply Imp.left; apply Imp.left; exact Imp.refl _))) | (apply EvC.now; exact rfl))); done) | exact ext_fix _ | (focus (repeat (first | apply List.Mem.head | apply List.Mem.tail | apply List.mem_append_right))))) | ((with_reducible apply t_pick); (apply EvC.now; exact rfl); (apply EvC.now; exact rfl))); (simp only [List.set_cons_succ, List.set_cons_zero]; exact rfl)))
          refine wpG_end hR (by kernel_rfl) ?_
          clear hR; intro w hR
          go_upto_if 101 with fail
          refine wp_cond_at (nm := false) rfl rfl (fun h => absurd h (by decide)) (fun _ => ?_)
          go_wp2_with fail
          go_round
          case rel => exact ⟨j + 1, rfl, by omega, hR⟩
          case measure => simp [intOf]; omega
        · refine wp_cond_at (nm := false) rfl (by simp; omega) (fun h => absurd h (by decide)) (fun _ => ?_)
          clear hjl hj hY
          obtain ⟨q, hq⟩ : ∃ q : Nat, cut % 65536 % ((bs.length : Int) + 1) = q := ⟨(cut % 65536 % ((bs.length : Int) + 1)).toNat, (Int.toNat_of_nonneg (Int.emod_nonneg _ (by omega))).symm⟩
          have hqb : q ≤ bs.length := by have := Int.emod_lt_of_pos (cut % 65536) (b := (bs.length : Int) + 1) (by omega); omega
          have HM1 := Lib.hid (show bits .and .i64 cut 65535 = cut % 65536 from i64_mask cut 16 65535 (by decide) (by decide))
          have HM2 := Lib.hid (show IntKind.i64.wrap ((bs.length : Int) + 1) = (bs.length : Int) + 1 from IntWalk.i64_in _ (by omega))
          have HM3 := Lib.hid (show (cut % 65536).tmod ((bs.length : Int) + 1) = (q : Int) by rw [rem_in (by omega)]; exact hq)
          have hbt := hbo.take q
          clear hq
          go_wp2_with (first
    | ((with_reducible apply q_ls hR); exact rfl; (with_reducible apply t_lenN Try.underlying9); (apply EvC.now; exact rfl); (simp only [List.set_cons_succ, List.set_cons_zero]; exact rfl); clear hR; intro w hR)
    | ((with_reducible apply q_ls hR); exact rfl; (with_reducible apply t_numE); (apply EvC.now; exact rfl); (apply EvC.now; exact rfl); exact rfl; (with_reducible first | exact HM1.out | exact HM2.out); (simp only [List.set_cons_succ, List.set_cons_zero]; exact rfl); clear hR; intro w hR)
    | ((with_reducible apply q_ls hR); exact rfl; (with_reducible apply t_rem); (apply EvC.now; exact rfl); (apply EvC.now; exact rfl); (omega); exact HM3.out; (simp only [List.set_cons_succ, List.set_cons_zero]; exact rfl); clear hR; intro w hR)
    | ((with_reducible apply q_ls hR); exact rfl; (with_reducible apply t_takeN Try.underlying9); (apply EvC.now; exact rfl); (apply EvC.now; exact rfl); exact rfl; exact hqb; (simp only [List.set_cons_succ, List.set_cons_zero]; exact rfl); clear hR; intro w hR)
    | ((with_reducible apply wpList_bytesN hR Try.underlying9 Try.underlying29 Try.underlying5 hbt); exact rfl; exact rfl; clear hR; intro vm w hR hM; simp only [List.set_cons_succ, List.set_cons_zero])
    | ((with_reducible apply wpList_built); exact rfl; exact rfl; exact bThs0; (simp only [List.set_cons_succ, List.set_cons_zero]; exact rfl))
    | ((with_reducible apply q_ls hR); exact rfl; ((with_reducible first | apply t_addr (fRec _ (by decide)) | apply t_addr (fFix _ (by decide)) | apply t_one tByteR | apply t_one tSlR | apply t_one tIntR | apply t_one tWordF | apply t_one tBoolF | apply t_part tFix) <;> (first | (apply EvC.gv; exact rfl; (with_reducible first | exact Imp.refl _ | (apply Imp.left; exact Imp.refl _) | (apply Imp.right; exact Imp.refl _) | (apply Imp.left; apply Imp.left; exact Imp.refl _))) | (apply EvC.now; exact rfl) | exact rfl | (with_reducible exact EvAll.nil) | (focus (repeat (first | apply EvAll.cons | exact EvAll.nil | (apply EvC.gv; exact rfl; (with_reducible first | exact Imp.refl _ | (apply Imp.left; exact Imp.refl _) | (apply Imp.right; exact Imp.refl _) | (apply Imp.left; apply Imp.left; exact Imp.refl _))) | (apply EvC.now; exact rfl))); done) | exact ext_fix _ | (focus (repeat (first | apply List.Mem.head | apply List.Mem.tail | apply List.mem_append_right))))); (simp only [List.set_cons_succ, List.set_cons_zero]; exact rfl); clear hR; intro w hR))
          have hcutl : (bs.take q).length ≤ 100000 := by rw [List.length_take]; omega
          have hgc := HCUT.out q hqb
          refine (fixGet_any k ths0 hM.src hcutl (by omega) ths0_ok).mono ?_
          obtain ⟨Z, hZe⟩ : ∃ Z, getF (bs.take q) k ths0 = Z := ⟨_, rfl⟩
          rw [hZe] at hgc ⊢
          clear hZe hcutl hM hbt HCUT HM1 HM2 HM3
          rintro e w3 ⟨v3, rfl, hb, hY3⟩
          replace hxr := (hxr.own hR).keep hb
          replace hR := hR.grow hb
          have hZ2 := (hZ).own hR
          clear hR hb
          try clear hZ
          have hZ := hZ2
          clear hZ2
          have hR := Own.start w3
          rcases hgc with ⟨g1, g2, g3⟩ | ⟨g1, g2, g3⟩
          · rw [g1, g3]
            have HLEQ := Lib.hid (show cmpB .leq (Z.1.length : Int) (X.length : Int) = some true from congrArg some (decide_eq_true (by omega)))
            clear g1 g2 g3
            go_upto_region 18 with (first
                | ((with_reducible apply wpList_make hR zThs); exact rfl; clear hR; intro g17 w hR; simp only [List.set_cons_succ, List.set_cons_zero])
                | ((with_reducible apply wpList_put hR tThs); exact rfl; exact rfl; exact rfl; (focus (repeat (first | apply List.Mem.head | apply List.Mem.tail | apply List.mem_append_right))); exact put_ths _ rfl ths0_ok; exact rfl; simp [encThs, cellsThs_len ths0_ok]; exact one_ths _; (focus (repeat (first | apply Upd.head | apply Upd.tail))); clear hR; intro w hR))
            refine wp_region_tame hR [0, 1, 2, 3, 4, 5, 6, 7, 8, 9, 10, 11, 12, 13, 14, 15, 16, 17, 18, 19, 20, 21] rfl ?_
            repeat (refine wpT_step rfl ?_; first
                | ((with_reducible apply q_kn); exact rfl; (with_reducible apply t_call Try.call9); (first | (apply EvC.gv; exact rfl; (with_reducible first | exact Imp.refl _ | (apply Imp.left; exact Imp.refl _) | (apply Imp.right; exact Imp.refl _) | (apply Imp.left; apply Imp.left; exact Imp.refl _))) | (apply EvC.now; exact rfl) | exact rfl | (with_reducible exact EvAll.nil) | (focus (repeat (first | apply EvAll.cons | exact EvAll.nil | (apply EvC.gv; exact rfl; (with_reducible first | exact Imp.refl _ | (apply Imp.left; exact Imp.refl _) | (apply Imp.right; exact Imp.refl _) | (apply Imp.left; apply Imp.left; exact Imp.refl _))) | (apply EvC.now; exact rfl))); done) | exact ext_fix _ | (focus (repeat (first | apply List.Mem.head | apply List.Mem.tail | apply List.mem_append_right)))); (intro hcc w hC; exact tame_below (awake25_any _) hC); (simp only [List.set_cons_succ, List.set_cons_zero]; exact rfl))
                | ((with_reducible apply q_kn); exact rfl; (with_reducible apply t_lenRd Try.underlying34); (apply EvC.now; exact rfl); (first | exact hY3 | exact hxr); (simp only [List.set_cons_succ, List.set_cons_zero]; exact rfl))
                | ((with_reducible apply q_kn); exact rfl; (with_reducible apply t_cmp); (apply EvC.now; exact rfl); (apply EvC.now; exact rfl); (with_reducible first | exact HLEQ.out | exact cmp_selfS _ | exact c20 | exact l0F); (simp only [List.set_cons_succ, List.set_cons_zero]; exact rfl))
                | ((with_reducible apply q_kn); exact rfl; (first | ((with_reducible first | apply t_move | apply t_assign | apply t_addr (fRec _ (by decide)) | apply t_addr (fFix _ (by decide)) | apply t_one tByteR | apply t_one tSlR | apply t_one tIntR | apply t_one tWordF | apply t_one tBoolF | apply t_part tFix) <;> (first | (apply EvC.gv; exact rfl; (with_reducible first | exact Imp.refl _ | (apply Imp.left; exact Imp.refl _) | (apply Imp.right; exact Imp.refl _) | (apply Imp.left; apply Imp.left; exact Imp.refl _))) | (apply EvC.now; exact rfl) | exact rfl | (with_reducible exact EvAll.nil) | (focus (repeat (first | apply EvAll.cons | exact EvAll.nil | (apply EvC.gv; exact rfl; (with_reducible first | exact Imp.refl _ | (apply Imp.left; exact Imp.refl _) | (apply Imp.right; exact Imp.refl _) | (apply Imp.left; apply Imp.left; exact Imp.refl _))) | (apply EvC.now; exact rfl))); done) | exact ext_fix _ | (focus (repeat (first | apply List.Mem.head | apply List.Mem.tail | apply List.mem_append_right))))) | ((with_reducible apply t_pick); (apply EvC.now; exact rfl); (apply EvC.now; exact rfl))); (simp only [List.set_cons_succ, List.set_cons_zero]; exact rfl))
                | ((with_reducible apply wpT1_skipL); exact rfl; (simp only [List.set_cons_succ, List.set_cons_zero]; exact rfl)))
            refine wpT_nil ?_
            clear hR; intro w hR
            go_wp2_with fail
            go_ret
            exact ⟨rfl, (hZ.own hR).below⟩
          · rw [g1, g3]
            rw [g2] at hY3
            have HLEQ := Lib.hid (show cmpB .leq (([] : List FixZ).length : Int) (X.length : Int) = some true from congrArg some (decide_eq_true (by simp)))
            clear g1 g2 g3
            go_upto_region 18 with (first
                | ((with_reducible apply wpList_make hR zThs); exact rfl; clear hR; intro g17 w hR; simp only [List.set_cons_succ, List.set_cons_zero])
                | ((with_reducible apply wpList_put hR tThs); exact rfl; exact rfl; exact rfl; (focus (repeat (first | apply List.Mem.head | apply List.Mem.tail | apply List.mem_append_right))); exact put_ths _ rfl ths0_ok; exact rfl; simp [encThs, cellsThs_len ths0_ok]; exact one_ths _; (focus (repeat (first | apply Upd.head | apply Upd.tail))); clear hR; intro w hR))
            refine wp_region_tame hR [0, 1, 2, 3, 4, 5, 6, 7, 8, 9, 10, 11, 12, 13, 14, 15, 16, 17, 18, 19, 20, 21] rfl ?_
            repeat (refine wpT_step rfl ?_; first
                | ((with_reducible apply q_kn); exact rfl; (with_reducible apply t_call Try.call9); (first | (apply EvC.gv; exact rfl; (with_reducible first | exact Imp.refl _ | (apply Imp.left; exact Imp.refl _) | (apply Imp.right; exact Imp.refl _) | (apply Imp.left; apply Imp.left; exact Imp.refl _))) | (apply EvC.now; exact rfl) | exact rfl | (with_reducible exact EvAll.nil) | (focus (repeat (first | apply EvAll.cons | exact EvAll.nil | (apply EvC.gv; exact rfl; (with_reducible first | exact Imp.refl _ | (apply Imp.left; exact Imp.refl _) | (apply Imp.right; exact Imp.refl _) | (apply Imp.left; apply Imp.left; exact Imp.refl _))) | (apply EvC.now; exact rfl))); done) | exact ext_fix _ | (focus (repeat (first | apply List.Mem.head | apply List.Mem.tail | apply List.mem_append_right)))); (intro hcc w hC; exact tame_below (awake25_any _) hC); (simp only [List.set_cons_succ, List.set_cons_zero]; exact rfl))
                | ((with_reducible apply q_kn); exact rfl; (with_reducible apply t_lenRd Try.underlying34); (apply EvC.now; exact rfl); (first | exact hY3 | exact hxr); (simp only [List.set_cons_succ, List.set_cons_zero]; exact rfl))
                | ((with_reducible apply q_kn); exact rfl; (with_reducible apply t_cmp); (apply EvC.now; exact rfl); (apply EvC.now; exact rfl); (with_reducible first | exact HLEQ.out | exact cmp_selfS _ | exact c20 | exact l0F); (simp only [List.set_cons_succ, List.set_cons_zero]; exact rfl))
                | ((with_reducible apply q_kn); exact rfl; (first | ((with_reducible first | apply t_move | apply t_assign | apply t_addr (fRec _ (by decide)) | apply t_addr (fFix _ (by decide)) | apply t_one tByteR | apply t_one tSlR | apply t_one tIntR | apply t_one tWordF | apply t_one tBoolF | apply t_part tFix) <;> (first | (apply EvC.gv; exact rfl; (with_reducible first | exact Imp.refl _ | (apply Imp.left; exact Imp.refl _) | (apply Imp.right; exact Imp.refl _) | (apply Imp.left; apply Imp.left; exact Imp.refl _))) | (apply EvC.now; exact rfl) | exact rfl | (with_reducible exact EvAll.nil) | (focus (repeat (first | apply EvAll.cons | exact EvAll.nil | (apply EvC.gv; exact rfl; (with_reducible first | exact Imp.refl _ | (apply Imp.left; exact Imp.refl _) | (apply Imp.right; exact Imp.refl _) | (apply Imp.left; apply Imp.left; exact Imp.refl _))) | (apply EvC.now; exact rfl))); done) | exact ext_fix _ | (focus (repeat (first | apply List.Mem.head | apply List.Mem.tail | apply List.mem_append_right))))) | ((with_reducible apply t_pick); (apply EvC.now; exact rfl); (apply EvC.now; exact rfl))); (simp only [List.set_cons_succ, List.set_cons_zero]; exact rfl))
                | ((with_reducible apply wpT1_skipL); exact rfl; (simp only [List.set_cons_succ, List.set_cons_zero]; exact rfl)))
            refine wpT_nil ?_
            clear hR; intro w hR
            go_wp2_with fail
            go_ret
            exact ⟨rfl, (hZ.own hR).below⟩

set_option maxRecDepth 100000 in
theorem lifted (os : Os) (started : os.Started) (H : Type) (enc : TypeId × Value → H) :
    ReturnsInHanded {} Try.checked os 4 .any (Rows.fixupBackSpec.pre6 enc Try.prog Try.f4 Rows.fixupBackRow.domain false) (Rows.fixupBackSpec.post enc Try.prog Try.f4 false true false false) := by
  refine returnsInHanded_of_change (C := Try.checked) own started (by kernel_rfl) Try.func4
    (ChangeSpec.witness6 (enc := enc) (C := Try.checked) false ⟨#[], #[.slice none 0 0, .int .i64 0, .int .i64 0], []⟩ 8 (by kernel_rfl) (by kernel_rfl) (by kernel_rfl) (by kernel_rfl)) ?_
  intro W base args ds gs before hval0 hW hcnd _
  have hval : ∀ (j : Nat) t v, Try.f4.params[j]? = some t → args[j]? = some v → Value.okWide Try.prog W .any base t v := hval0
  have hW' := hW
  obtain ⟨p, q, hA0, hV, rfl, hfz, hnd⟩ := hW
  have hA : DataW.TrodAll enc Try.prog W 0 (fun _ => true) true Try.f4.params.toList args.toList ds p := hA0
  rw [Try.params4] at hA hval
  obtain ⟨v0, vs0, d0, ds0, p0, q0, hargs, rfl, rfl, h0, r0⟩ := trodAll_cons hA
  obtain ⟨v1, vs1, d1, ds1, p1, q1, rfl, rfl, rfl, h1, r1⟩ := trodAll_cons r0
  obtain ⟨v2, vs2, d2, ds2, p2, q2, rfl, rfl, rfl, h2, r2⟩ := trodAll_cons r1
  obtain ⟨rfl, rfl, rfl⟩ := trodAll_nil r2
  obtain rfl : args = #[v0, v1, v2] := by cases args; simp_all
  obtain ⟨rfl, rfl⟩ := trodVars_none hV
  have k0 := h0
  have lt0 : ∀ x ∈ p0, x.block < W.heap.size := by obtain ⟨m, hm⟩ := k0; exact DataW.trod_lt m _ _ _ hm
  have o0 := open_fixes (hval 0 34 v0 rfl rfl) h0
  obtain ⟨a1, rfl, rfl, rfl, w1⟩ := open_int Try.underlying3 (hval 1 3 v1 rfl rfl) h1
  obtain ⟨a2, rfl, rfl, rfl, w2⟩ := open_int Try.underlying3 (hval 2 3 v2 rfl rfl) h2
  clear hA0 hval0
  refine (walk v0 o0 a1 w1 a2 w2 W).mono fun e W' ⟨he, bel⟩ => ?_
  subst he
  exact ⟨_, rfl, _, _, _, [], _, [], hW', trodAll_mk1 (shut_bool Try.underlying4 _), (trodAll_cons_mk (Below.trod laidOut (by kernel_rfl) (of_decide_eq_true (by kernel_rfl)) k0 bel lt0) (trodAll_cons_mk (shut_int Try.underlying3 w1) (trodAll_cons_mk (shut_int Try.underlying3 w2) trodAll_mk0))), rfl, bel.frame _, fun h => by cases h⟩

theorem over : Rows.fixupBackRow.holds Try.pinned (OpenSpec.ofChange Rows.fixupBackSpec) :=
  OpenClaim.holds_of_wide 4 Try.f4 rfl rfl rfl rfl rfl rfl rfl ⟨rfl, rfl, rfl, rfl, rfl⟩ rfl rfl rfl rfl rfl (by kernel_rfl) Try.func4 (by kernel_rfl)
    (of_decide_eq_true (by kernel_rfl)) (by unfold Func.isWrapper; first | (rw [if_pos (by decide +kernel)]; kernel_rfl) | (rw [if_neg (by decide +kernel)]; exact ⟨rfl, rfl⟩))
    (fun os started H enc _ => lifted os started H enc)

theorem proved : Rows.FixupBackSaid := over
#print axioms proved
end Go.Proofs.Ytimciiaajlfkoaa.fixupBack
