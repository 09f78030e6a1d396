/- The law FixupSorted (fixups by their places, of one place in their order) returns true whatever the arguments, and each argument reads afterwards as before. There is no condition on the arguments. -/
import Derived.Test.YtimciiaajlfkoaaRows
import Derived.Test.YtimciiaajlfkoaaLaw25
import Derived.Test.YtimciiaajlfkoaaFixSo
import Derived.Test.YtimciiaajlfkoaaAppG
import Derived.WalkKit
import Derived.ProofKit
import Derived.OpenShut
import Derived.ShutString
import Derived.ChangeOld
import Derived.Below
namespace Go.Proofs.Ytimciiaajlfkoaa.fixupSorted
open Go.ChangeShapes Go.WideShapes Go.ChangeAt Go.RowKit
open Go.ChangeMaps (open_string shut_string)
set_option linter.unusedVariables false
set_option linter.unusedSimpArgs false

theorem own : ownKnob Try.prog.godebug = none := by kernel_rfl
theorem laidOut : laidOutB Try.prog = true := by kernel_rfl










def elS (i : Nat) (f : FixZ) : FixZ := { f with a := f.a % 8, n := (i : Int) }
def takeS (l : List FixZ) (k : Nat) : List FixZ := (l.take k).mapIdx elS
theorem takeS_more {l : List FixZ} {k : Nat} {f : FixZ} (h : l[k]? = some f) : takeS l (k + 1) = takeS l k ++ [elS k f] := by
  have hk : k < l.length := (List.getElem?_eq_some_iff.1 h).1
  unfold takeS
  rw [List.take_add_one, h, List.mapIdx_append]
  simp [List.length_take, Nat.min_eq_left (Nat.le_of_lt hk)]
theorem takeS_len {l : List FixZ} {k : Nat} (h : k ≤ l.length) : (takeS l k).length = k := by
  unfold takeS; rw [List.length_mapIdx, List.length_take]; omega
theorem takeS_num (l : List FixZ) (k : Nat) : Numbered (takeS l k) := by
  intro i f h
  unfold takeS at h
  rw [List.getElem?_mapIdx] at h
  cases hx : (l.take k)[i]? with
  | none => rw [hx] at h; exact nomatch h
  | some g => rw [hx] at h; obtain rfl := Option.some.inj h; rfl
theorem takeS_ok {l : List FixZ} {k : Nat} (h : ∀ f ∈ l, f.ok) (hk : k ≤ 12) : ∀ f ∈ takeS l k, f.ok := by
  intro f hf
  obtain ⟨i, hi⟩ := List.getElem?_of_mem hf
  have hlt := (List.getElem?_eq_some_iff.1 hi).1
  unfold takeS at hi hlt
  rw [List.length_mapIdx, List.length_take] at hlt
  rw [List.getElem?_mapIdx] at hi
  cases hx : (l.take k)[i]? with
  | none => rw [hx] at hi; exact nomatch hi
  | some g =>
    rw [hx] at hi
    obtain rfl := Option.some.inj hi
    have hg := h g (List.mem_of_mem_take (List.mem_of_getElem? hx))
    exact ⟨by unfold i64B elS; dsimp only; omega, hg.loc, hg.fr, hg.fn, hg.tg, by unfold i64B elS; dsimp only; omega, hg.d⟩
def LoopIs (w0 : World) (l : List FixZ) (x i : Value) (wr : World) : Prop :=
  ∃ (k : Nat) (sl : List RowT), i = .int .i64 k ∧ k ≤ 12 ∧ k ≤ l.length ∧ Own w0 wr (sl ++ []) ∧ Sl 24 8 sl x k ((takeS l k).flatMap cellsF)
set_option maxHeartbeats 8000000 in
set_option maxRecDepth 100000 in
theorem walk {w0 : World} (v0 : Value) (hA : FixesIn w0 v0) (wi : World) :
    Calls Try.prog 6 #[v0] w0 fun e w' => e = .returned (.bool true) ∧ Below w0.heap.size w0 w' := by
  clear wi
  obtain ⟨l, hlo, hl⟩ := hA
  have hR := Own.start w0
  go_enter Try.func6, Try.ntmps6
  go_wp2_with (first
    | ((with_reducible apply wpList_buildS hR); exact rfl; exact rfl; (exact bFixes0); clear hR; intro gx w hR; simp only [List.set_cons_succ, List.set_cons_zero]))
  go_loopw [3, 4] (fun x i wr => LoopIs w0 l x i wr) (fun _ i _ => 12 - (intOf i).toNat)
  case atStart => exact ⟨0, _, rfl, by decide, Nat.zero_le _, hR, (RwIs.all rfl (by decide)).sl⟩
  case round =>
    clear hR
    obtain ⟨k, sl, rfl, hk12, hkl, hR, hS⟩ := hrel
    go_upto_region 3 with fail
    refine wp_region_tame hR [0, 1, 2, 3, 4, 5, 6, 7] rfl ?_
    repeat (refine wpT_step rfl ?_; first
    | ((with_reducible apply q_pl); (with_reducible apply t_lenRd Try.underlying34); (apply EvC.now; exact rfl); exact hl; (simp only [List.set_cons_succ, List.set_cons_zero]; exact rfl))
    | ((first | (with_reducible apply q_pl) | ((with_reducible apply q_gd); (first | (apply GdBy.gt; exact rfl; exact rfl) | (apply GdBy.gf; exact rfl; exact rfl) | (apply GdBy.t; exact rfl; exact rfl) | (apply GdBy.f; exact rfl; exact rfl)))); (first | ((with_reducible first | apply t_move | apply t_assign | apply t_and | apply t_or | apply t_cmp | apply t_not | apply t_addr (fRec _ (by decide)) | apply t_addr (fFix _ (by decide)) | apply t_one tByteR | apply t_one tSlR | apply t_one tIntR | apply t_one tWordF | apply t_one tBoolF | apply t_part tFix) <;> (first | (apply EvC.gv; exact rfl; (with_reducible first | exact Imp.refl _ | (apply Imp.left; exact Imp.refl _) | (apply Imp.right; exact Imp.refl _) | (apply Imp.left; apply Imp.left; exact Imp.refl _))) | (apply EvC.now; exact rfl) | exact rfl | (with_reducible exact EvAll.nil) | (focus (repeat (first | apply EvAll.cons | exact EvAll.nil | (apply EvC.gv; exact rfl; (with_reducible first | exact Imp.refl _ | (apply Imp.left; exact Imp.refl _) | (apply Imp.right; exact Imp.refl _) | (apply Imp.left; apply Imp.left; exact Imp.refl _))) | (apply EvC.now; exact rfl))); done) | exact ext_fix _ | (focus (repeat (first | apply List.Mem.head | apply List.Mem.tail | apply List.mem_append_right)))))); (simp only [List.set_cons_succ, List.set_cons_zero]; exact rfl))
    | ((with_reducible apply q_gd); (first | (apply GdBy.gt; exact rfl; exact rfl) | (apply GdBy.gf; exact rfl; exact rfl) | (apply GdBy.t; exact rfl; exact rfl) | (apply GdBy.f; exact rfl; exact rfl)); ((with_reducible apply t_num) <;> (first | (apply EvC.gv; exact rfl; (with_reducible first | exact Imp.refl _ | (apply Imp.left; exact Imp.refl _) | (apply Imp.right; exact Imp.refl _) | (apply Imp.left; apply Imp.left; exact Imp.refl _))) | (apply EvC.now; exact rfl) | exact rfl | (with_reducible exact EvAll.nil) | (focus (repeat (first | apply EvAll.cons | exact EvAll.nil | (apply EvC.gv; exact rfl; (with_reducible first | exact Imp.refl _ | (apply Imp.left; exact Imp.refl _) | (apply Imp.right; exact Imp.refl _) | (apply Imp.left; apply Imp.left; exact Imp.refl _))) | (apply EvC.now; exact rfl))); done) | exact ext_fix _ | (focus (repeat (first | apply List.Mem.head | apply List.Mem.tail | apply List.mem_append_right))))); (simp only [List.set_cons_succ, List.set_cons_zero]; exact rfl))
    | ((with_reducible apply wpT1_gpure); (first | (apply GdBy.gt; exact rfl; exact rfl) | (apply GdBy.gf; exact rfl; exact rfl) | (apply GdBy.t; exact rfl; exact rfl) | (apply GdBy.f; exact rfl; exact rfl)); intro K hK; go_simp; refine hK _ ?_; clear hK K; simp only [List.set_cons_succ, List.set_cons_zero])
    | ((with_reducible apply wpT1_pure); exact rfl; intro K hK; go_simp; refine hK _ ?_; clear hK K; simp only [List.set_cons_succ, List.set_cons_zero]))
    refine wpT_nil ?_
    clear hR; intro w hR
    go_upto_if 16 with fail
    refine wp_cond_at (nm := decide ((k : Int) < (l.length : Int)) && decide ((k : Int) < 12)) rfl rfl (fun h => ?_) (fun h => ?_)
    · simp only [Bool.and_eq_true, decide_eq_true_eq] at h
      have hlt : k < l.length := by omega
      have h12 : k < 12 := by omega
      clear h
      obtain ⟨f, hf⟩ : ∃ f, l[k]? = some f := ⟨_, List.getElem?_eq_getElem hlt⟩
      obtain ⟨a, cap, rfl, hc⟩ := hl.el cellsF_len hf
      have HC := Lib.hid (show ∀ j u, (encF f).toList[j]? = some u → w0.cell? ((a.add ((k : Int).toNat * 8)).add j) = some u by rw [Int.toNat_natCast]; exact hc)
      have HTM := Lib.hid (takeS_more hf)
      have HM := Lib.hid (show bits .and .i64 f.a 7 = f.a % 8 from i64_mask f.a 3 7 (by decide) (by decide))
      clear hc hf
      go_wp2_with (first
    | ((with_reducible apply q_ls hR); exact rfl; (with_reducible apply t_six Try.underlying34 iFix); (apply EvC.now; exact rfl); (apply EvC.now; exact rfl); (constructor <;> omega); (simp only [List.set_cons_succ, List.set_cons_zero]; exact rfl); clear hR; intro w hR)
    | ((with_reducible apply q_ls hR); exact rfl; (with_reducible apply t_oldMany tFix); (apply EvC.now; exact rfl); exact HC.out; exact rfl; (simp only [List.set_cons_succ, List.set_cons_zero]; exact rfl); clear hR; intro w hR)
    | ((with_reducible apply wpList_make hR zFix); exact rfl; clear hR; intro g5 w hR; simp only [List.set_cons_succ, List.set_cons_zero])
    | ((with_reducible apply wpList_put hR tFix); exact rfl; exact rfl; exact rfl; (focus (repeat (first | apply List.Mem.head | apply List.Mem.tail | apply List.mem_append_right))); exact put_fix _ _; exact rfl; simp [encF]; exact one_fix _; (focus (repeat (first | apply Upd.head | apply Upd.tail))); clear hR; intro w hR)
    | ((with_reducible apply q_ls hR); exact rfl; (with_reducible apply t_numE); (apply EvC.now; exact rfl); (apply EvC.now; exact rfl); exact rfl; exact HM.out; (simp only [List.set_cons_succ, List.set_cons_zero]; exact rfl); clear hR; intro w hR)
    | ((with_reducible apply wpList_put1 hR tIntR); exact rfl; exact rfl; exact rfl; (focus (repeat (first | apply List.Mem.head | apply List.Mem.tail | apply List.mem_append_right))); (first | exact put_fa _ _ | exact put_fn _ _); simp [encF]; exact rfl; (focus (repeat (first | apply Upd.head | apply Upd.tail))); clear hR; intro w hR)
    | ((with_reducible apply wpList_buildS hR); exact rfl; exact rfl; (exact bFixes1 _); clear hR; intro gb w hR; simp only [List.set_cons_succ, List.set_cons_zero])
    | ((with_reducible apply wpList_appG hR tFixesB); exact rfl; exact rfl; exact rfl; exact hS; (exact Les.tail (Les.tail Les.head)); (exact rd_one (z := elS k f) cellsF_len cellsF_one hR (.head _)); (simp only [maxLen]; omega); omega; clear hR hS; intro s2 v2 w hR hS; simp only [List.set_cons_succ, List.set_cons_zero])
    | ((with_reducible apply q_ls hR); exact rfl; ((with_reducible first | apply t_addr (fRec _ (by decide)) | apply t_addr (fFix _ (by decide)) | apply t_one tByteR | apply t_one tSlR | apply t_one tIntR | apply t_one tWordF | apply t_one tBoolF | apply t_part tFix) <;> (first | (apply EvC.gv; exact rfl; (with_reducible first | exact Imp.refl _ | (apply Imp.left; exact Imp.refl _) | (apply Imp.right; exact Imp.refl _) | (apply Imp.left; apply Imp.left; exact Imp.refl _))) | (apply EvC.now; exact rfl) | exact rfl | (with_reducible exact EvAll.nil) | (focus (repeat (first | apply EvAll.cons | exact EvAll.nil | (apply EvC.gv; exact rfl; (with_reducible first | exact Imp.refl _ | (apply Imp.left; exact Imp.refl _) | (apply Imp.right; exact Imp.refl _) | (apply Imp.left; apply Imp.left; exact Imp.refl _))) | (apply EvC.now; exact rfl))); done) | exact ext_fix _ | (focus (repeat (first | apply List.Mem.head | apply List.Mem.tail | apply List.mem_append_right))))); (simp only [List.set_cons_succ, List.set_cons_zero]; exact rfl); clear hR; intro w hR))
      go_round
      case rel =>
        refine ⟨k + 1, s2, rfl, by omega, by omega, hR.drop ((List.Sublist.refl s2).append (.cons _ (.cons _ (List.Sublist.refl _)))), ?_⟩
        rw [HTM.out, List.flatMap_append]
        exact hS.cast (by simp)
      case measure => simp [intOf]; omega
    · clear h hl
      have hXl := takeS_len hkl
      have hXn := takeS_num l k
      have hXo := takeS_ok hlo hk12
      obtain ⟨X, hX⟩ : ∃ X, takeS l k = X := ⟨_, rfl⟩
      rw [hX] at hXl hXn hXo hS
      clear hX hkl hlo
      subst hXl
      have hxr : RowsAt 8 cellsF _ _ X := hS.rowsAt cellsF_one hR (fun r hr => List.mem_append_left _ hr)
      clear hS
      have hZ2 := (Since.start w0).own hR
      have hR2 := hR.fresh
      clear hR
      try clear hZ
      have hZ := hZ2
      have hR := hR2
      clear hZ2 hR2
      go_wp2_with fail
      refine (fixSorted_any (hxr.own hR) (by omega)).mono ?_
      rintro e w1 ⟨Y, vy, hST, rfl, hb, hY⟩
      replace hxr := (hxr.own hR).keep hb
      replace hR := hR.grow hb
      have hZ2 := (hZ).own hR
      clear hR hb
      try clear hZ
      have hZ := hZ2
      clear hZ2
      have hR := Own.start w1
      have hYl := hST.perm.length_eq
      have hY12 : Y.length ≤ 12 := by omega
      obtain ⟨ay, ny, cy, rfl⟩ := hY.shape
      obtain ⟨ax, nx, cx, rfl⟩ := hxr.shape
      have HNE := Lib.hid (show cmpB .neq (Y.length : Int) (X.length : Int) = some false from congrArg some (by rw [hYl]; simp))
      go_upto_if 39 with (first
    | ((with_reducible apply q_ls hR); exact rfl; (with_reducible apply t_lenRd Try.underlying34); (apply EvC.now; exact rfl); (first | exact hY | exact hxr); (simp only [List.set_cons_succ, List.set_cons_zero]; exact rfl); clear hR; intro w hR)
    | ((with_reducible apply q_ls hR); exact rfl; (with_reducible apply t_cmp); (apply EvC.now; exact rfl); (apply EvC.now; exact rfl); exact HNE.out; (simp only [List.set_cons_succ, List.set_cons_zero]; exact rfl); clear hR; intro w hR))
      refine wp_cond_at (nm := false) rfl rfl (fun h => absurd h (by decide)) (fun _ => ?_)
      go_wp2_with fail
      go_loopw [7] (fun i wr => ∃ j : Nat, i = .int .i64 j ∧ j ≤ Y.length ∧ Own w1 wr []) (fun i _ => Y.length - (intOf i).toNat)
      case atStart => exact ⟨0, rfl, Nat.zero_le _, hR⟩
      case round =>
        clear hR
        obtain ⟨j, rfl, hj, hR⟩ := hrel
        go_upto_region 12 with fail
        refine wp_region_tame hR [0, 1, 2, 3] rfl ?_
        repeat (refine wpT_step rfl ?_; first
    | ((with_reducible apply q_pl); (with_reducible apply t_lenRd Try.underlying34); (apply EvC.now; exact rfl); exact hY; (simp only [List.set_cons_succ, List.set_cons_zero]; exact rfl))
    | ((first | (with_reducible apply q_pl) | ((with_reducible apply q_gd); (first | (apply GdBy.gt; exact rfl; exact rfl) | (apply GdBy.gf; exact rfl; exact rfl) | (apply GdBy.t; exact rfl; exact rfl) | (apply GdBy.f; exact rfl; exact rfl)))); (first | ((with_reducible first | apply t_move | apply t_assign | apply t_and | apply t_or | apply t_cmp | apply t_not | apply t_addr (fRec _ (by decide)) | apply t_addr (fFix _ (by decide)) | apply t_one tByteR | apply t_one tSlR | apply t_one tIntR | apply t_one tWordF | apply t_one tBoolF | apply t_part tFix) <;> (first | (apply EvC.gv; exact rfl; (with_reducible first | exact Imp.refl _ | (apply Imp.left; exact Imp.refl _) | (apply Imp.right; exact Imp.refl _) | (apply Imp.left; apply Imp.left; exact Imp.refl _))) | (apply EvC.now; exact rfl) | exact rfl | (with_reducible exact EvAll.nil) | (focus (repeat (first | apply EvAll.cons | exact EvAll.nil | (apply EvC.gv; exact rfl; (with_reducible first | exact Imp.refl _ | (apply Imp.left; exact Imp.refl _) | (apply Imp.right; exact Imp.refl _) | (apply Imp.left; apply Imp.left; exact Imp.refl _))) | (apply EvC.now; exact rfl))); done) | exact ext_fix _ | (focus (repeat (first | apply List.Mem.head | apply List.Mem.tail | apply List.mem_append_right)))))); (simp only [List.set_cons_succ, List.set_cons_zero]; exact rfl))
    | ((with_reducible apply q_gd); (first | (apply GdBy.gt; exact rfl; exact rfl) | (apply GdBy.gf; exact rfl; exact rfl) | (apply GdBy.t; exact rfl; exact rfl) | (apply GdBy.f; exact rfl; exact rfl)); ((with_reducible apply t_num) <;> (first | (apply EvC.gv; exact rfl; (with_reducible first | exact Imp.refl _ | (apply Imp.left; exact Imp.refl _) | (apply Imp.right; exact Imp.refl _) | (apply Imp.left; apply Imp.left; exact Imp.refl _))) | (apply EvC.now; exact rfl) | exact rfl | (with_reducible exact EvAll.nil) | (focus (repeat (first | apply EvAll.cons | exact EvAll.nil | (apply EvC.gv; exact rfl; (with_reducible first | exact Imp.refl _ | (apply Imp.left; exact Imp.refl _) | (apply Imp.right; exact Imp.refl _) | (apply Imp.left; apply Imp.left; exact Imp.refl _))) | (apply EvC.now; exact rfl))); done) | exact ext_fix _ | (focus (repeat (first | apply List.Mem.head | apply List.Mem.tail | apply List.mem_append_right))))); (simp only [List.set_cons_succ, List.set_cons_zero]; exact rfl))
    | ((with_reducible apply wpT1_gpure); (first | (apply GdBy.gt; exact rfl; exact rfl) | (apply GdBy.gf; exact rfl; exact rfl) | (apply GdBy.t; exact rfl; exact rfl) | (apply GdBy.f; exact rfl; exact rfl)); intro K hK; go_simp; refine hK _ ?_; clear hK K; simp only [List.set_cons_succ, List.set_cons_zero])
    | ((with_reducible apply wpT1_pure); exact rfl; intro K hK; go_simp; refine hK _ ?_; clear hK K; simp only [List.set_cons_succ, List.set_cons_zero]))
        refine wpT_nil ?_
        clear hR; intro w hR
        go_upto_if 43 with fail
        by_cases hjl : j < Y.length
        · refine wp_cond_at (nm := true) rfl (by simp; omega) (fun _ => ?_) (fun h => absurd h (by decide))
          obtain ⟨f, hf⟩ : ∃ f, Y[j]? = some f := ⟨_, List.getElem?_eq_getElem hjl⟩
          obtain ⟨m, hfn, hmX, hmx⟩ := stable_at hST hXn hf
          obtain ⟨ay', cy', hvy, hcy⟩ := hY.el cellsF_len hf
          obtain ⟨ax', cx', hvx, hcx⟩ := hxr.el cellsF_len hmx
          injection hvy with e1 e2 e3
          injection hvx with e4 e5 e6
          subst e1 e2 e3 e4 e5 e6
          have HYM := Lib.hid (show ∀ q u, (encF f).toList[q]? = some u → w1.cell? ((ay'.add ((j : Int).toNat * 8)).add q) = some u by rw [Int.toNat_natCast]; exact hcy)
          have HXM := Lib.hid (show ∀ q u, (encF f).toList[q]? = some u → w1.cell? ((ax'.add ((m : Int).toNat * 8)).add q) = some u by rw [Int.toNat_natCast]; exact hcx)
          have HYN := Lib.hid (show w1.cell? ((ay'.add ((j : Int).toNat * 8)).add 6) = some (.int .i64 (m : Int)) by rw [← hfn]; exact HYM.out 6 _ rfl)
          have HC1 := Lib.hid (show cmpB .lss (m : Int) 0 = some false from congrArg some (decide_eq_false (by omega)))
          have HC2 := Lib.hid (show cmpB .geq (m : Int) (X.length : Int) = some false from congrArg some (decide_eq_false (by omega)))
          go_upto_region 14 with fail
          refine wp_region_rows hR [0, 1, 2, 3, 4, 5, 6, 7, 8, 9, 10, 11, 12, 13, 14, 15, 16, 17, 18, 19, 20, 21, 22, 23, 24, 25, 26, 27, 28, 29, 30] 0 (by kernel_rfl) (by kernel_rfl) (by kernel_rfl) rfl ?_
          clear hR; intro hR
          repeat (refine wpT_step rfl ?_; first
    | ((with_reducible apply q_kn); exact rfl; (with_reducible apply t_six Try.underlying34 iFix); (apply EvC.now; exact rfl); (apply EvC.now; exact rfl); (constructor <;> omega); (simp only [List.set_cons_succ, List.set_cons_zero]; exact rfl))
    | ((with_reducible apply q_kn); exact rfl; (with_reducible apply t_fieldA (fFixA _ (by decide))); (apply EvC.now; exact rfl); (simp only [List.set_cons_succ, List.set_cons_zero]; exact rfl))
    | ((with_reducible apply q_kn); exact rfl; (with_reducible apply t_oldOne tIntR); (apply EvC.now; exact rfl); exact HYN.out; exact rfl; (simp only [List.set_cons_succ, List.set_cons_zero]; exact rfl))
    | ((with_reducible apply q_kn); exact rfl; (with_reducible apply t_oldMany tFix); (apply EvC.now; exact rfl); (with_reducible first | exact HYM.out | exact HXM.out); exact rfl; (simp only [List.set_cons_succ, List.set_cons_zero]; exact rfl))
    | ((with_reducible apply q_kn); exact rfl; (with_reducible apply t_lenRd Try.underlying34); (apply EvC.now; exact rfl); exact hxr; (simp only [List.set_cons_succ, List.set_cons_zero]; exact rfl))
    | ((with_reducible apply q_kn); exact rfl; (with_reducible apply t_nel gFix); (apply EvC.now; exact rfl); (apply EvC.now; exact rfl); exact eqF_self _; (simp only [List.set_cons_succ, List.set_cons_zero]; exact rfl))
    | ((with_reducible apply q_kn); exact rfl; (with_reducible apply t_cmp); (apply EvC.now; exact rfl); (apply EvC.now; exact rfl); (with_reducible first | exact HC1.out | exact HC2.out); (simp only [List.set_cons_succ, List.set_cons_zero]; exact rfl))
    | ((with_reducible apply q_kn); exact rfl; (first | ((with_reducible first | apply t_move | apply t_assign | apply t_addr (fRec _ (by decide)) | apply t_addr (fFix _ (by decide)) | apply t_one tByteR | apply t_one tSlR | apply t_one tIntR | apply t_one tWordF | apply t_one tBoolF | apply t_part tFix) <;> (first | (apply EvC.gv; exact rfl; (with_reducible first | exact Imp.refl _ | (apply Imp.left; exact Imp.refl _) | (apply Imp.right; exact Imp.refl _) | (apply Imp.left; apply Imp.left; exact Imp.refl _))) | (apply EvC.now; exact rfl) | exact rfl | (with_reducible exact EvAll.nil) | (focus (repeat (first | apply EvAll.cons | exact EvAll.nil | (apply EvC.gv; exact rfl; (with_reducible first | exact Imp.refl _ | (apply Imp.left; exact Imp.refl _) | (apply Imp.right; exact Imp.refl _) | (apply Imp.left; apply Imp.left; exact Imp.refl _))) | (apply EvC.now; exact rfl))); done) | exact ext_fix _ | (focus (repeat (first | apply List.Mem.head | apply List.Mem.tail | apply List.mem_append_right))))) | ((with_reducible apply t_pick); (apply EvC.now; exact rfl); (apply EvC.now; exact rfl))); (simp only [List.set_cons_succ, List.set_cons_zero]; exact rfl)))
          refine wpG_end hR (by kernel_rfl) ?_
          clear hR; intro w hR
          go_upto_if 76 with fail
          refine wp_cond_at (nm := false) rfl rfl (fun h => absurd h (by decide)) (fun _ => ?_)
          clear HC1 HC2 HXM HYN
          have HYA := Lib.hid (show w1.cell? ((ay'.add ((j : Int).toNat * 8)).add 0) = some (.int .i64 f.a) from HYM.out 0 _ rfl)
          have HYN := Lib.hid (show w1.cell? ((ay'.add ((j : Int).toNat * 8)).add 6) = some (.int .i64 f.n) from HYM.out 6 _ rfl)
          by_cases hj0 : j = 0
          · have HG := Lib.hid (show cmpB .gtr (j : Int) 0 = some false from congrArg some (decide_eq_false (by omega)))
            clear hj0
            go_upto_region 16 with fail
            refine wp_region_rows hR [0, 1, 2, 3, 4, 5, 6, 7, 8, 9, 10, 11, 12, 13, 14, 15, 16, 17, 18, 19, 20, 21, 22, 23, 24, 25, 26, 27, 28, 29, 30, 31, 32, 33, 34, 35, 36, 37, 38, 39, 40, 41, 42, 43] 0 (by kernel_rfl) (by kernel_rfl) (by kernel_rfl) rfl ?_
            clear hR; intro hR
            repeat (refine wpT_step rfl ?_; first
                | ((with_reducible apply q_kn); exact rfl; (with_reducible apply t_cmp); (apply EvC.now; exact rfl); (apply EvC.now; exact rfl); exact HG.out; (simp only [List.set_cons_succ, List.set_cons_zero]; exact rfl))
                | ((with_reducible apply q_kn); exact rfl; (first | ((with_reducible first | apply t_move | apply t_assign | apply t_addr (fRec _ (by decide)) | apply t_addr (fFix _ (by decide)) | apply t_one tByteR | apply t_one tSlR | apply t_one tIntR | apply t_one tWordF | apply t_one tBoolF | apply t_part tFix) <;> (first | (apply EvC.gv; exact rfl; (with_reducible first | exact Imp.refl _ | (apply Imp.left; exact Imp.refl _) | (apply Imp.right; exact Imp.refl _) | (apply Imp.left; apply Imp.left; exact Imp.refl _))) | (apply EvC.now; exact rfl) | exact rfl | (with_reducible exact EvAll.nil) | (focus (repeat (first | apply EvAll.cons | exact EvAll.nil | (apply EvC.gv; exact rfl; (with_reducible first | exact Imp.refl _ | (apply Imp.left; exact Imp.refl _) | (apply Imp.right; exact Imp.refl _) | (apply Imp.left; apply Imp.left; exact Imp.refl _))) | (apply EvC.now; exact rfl))); done) | exact ext_fix _ | (focus (repeat (first | apply List.Mem.head | apply List.Mem.tail | apply List.mem_append_right))))) | ((with_reducible apply t_pick); (apply EvC.now; exact rfl); (apply EvC.now; exact rfl))); (simp only [List.set_cons_succ, List.set_cons_zero]; exact rfl))
                | ((with_reducible apply wpT1_skipL); exact rfl; (simp only [List.set_cons_succ, List.set_cons_zero]; exact rfl)))
            refine wpG_end hR (by kernel_rfl) ?_
            clear hR; intro w hR
            go_upto_if 120 with fail
            refine wp_cond_at (nm := false) rfl rfl (fun h => absurd h (by decide)) (fun _ => ?_)
            go_wp2_with fail
            go_round
            case rel => exact ⟨j + 1, rfl, by omega, hR⟩
            case measure => simp [intOf]; omega
          · obtain ⟨i, rfl⟩ : ∃ i, j = i + 1 := ⟨j - 1, by omega⟩
            obtain ⟨g, hg⟩ : ∃ g, Y[i]? = some g := ⟨_, List.getElem?_eq_getElem (by omega)⟩
            have hnx := stable_next hST hXn hg hf
            have hcg := RowsAt.cell cellsF_len hY hg
            have HGA := Lib.hid (show w1.cell? ((ay'.add ((i : Int).toNat * 8)).add 0) = some (.int .i64 g.a) by rw [Int.toNat_natCast]; exact hcg 0 _ rfl)
            have HGN := Lib.hid (show w1.cell? ((ay'.add ((i : Int).toNat * 8)).add 6) = some (.int .i64 g.n) by rw [Int.toNat_natCast]; exact hcg 6 _ rfl)
            have HG := Lib.hid (show cmpB .gtr (((i + 1 : Nat) : Int)) 0 = some true from congrArg some (decide_eq_true (by omega)))
            have HG' := Lib.hid (show cmpB .gtr ((i : Int) + 1) 0 = some true from congrArg some (decide_eq_true (by omega)))
            have HSUB := Lib.hid (show IntKind.i64.wrap (((i + 1 : Nat) : Int) - 1) = (i : Int) by rw [IntWalk.i64_in _ (by omega)]; omega)
            have HSUB' := Lib.hid (show IntKind.i64.wrap ((i : Int) + 1 - 1) = (i : Int) by rw [IntWalk.i64_in _ (by omega)]; omega)
            have HLT := Lib.hid (show cmpB .lss f.a g.a = some false from congrArg some (decide_eq_false (by omega)))
            clear hg hcg
            rcases hnx with hnx | hnx
            · have HEQ := Lib.hid (show cmpB .eql f.a g.a = some false from congrArg some (decide_eq_false (by omega)))
              clear hnx
              go_upto_region 16 with fail
              refine wp_region_rows hR [0, 1, 2, 3, 4, 5, 6, 7, 8, 9, 10, 11, 12, 13, 14, 15, 16, 17, 18, 19, 20, 21, 22, 23, 24, 25, 26, 27, 28, 29, 30, 31, 32, 33, 34, 35, 36, 37, 38, 39, 40, 41, 42, 43] 0 (by kernel_rfl) (by kernel_rfl) (by kernel_rfl) rfl ?_
              clear hR; intro hR
              repeat (refine wpT_step rfl ?_; first
                  | ((with_reducible apply q_kn); exact rfl; (with_reducible apply t_six Try.underlying34 iFix); (apply EvC.now; exact rfl); (apply EvC.now; exact rfl); (constructor <;> omega); (simp only [List.set_cons_succ, List.set_cons_zero]; exact rfl))
                  | ((with_reducible apply q_kn); exact rfl; (with_reducible apply t_fieldA (fFixA _ (by decide))); (apply EvC.now; exact rfl); (simp only [List.set_cons_succ, List.set_cons_zero]; exact rfl))
                  | ((with_reducible apply q_kn); exact rfl; (with_reducible apply t_oldOne tIntR); (apply EvC.now; exact rfl); (with_reducible first | exact HYA.out | exact HGA.out | exact HYN.out | exact HGN.out); exact rfl; (simp only [List.set_cons_succ, List.set_cons_zero]; exact rfl))
                  | ((with_reducible apply q_kn); exact rfl; (with_reducible apply t_numE); (apply EvC.now; exact rfl); (apply EvC.now; exact rfl); exact rfl; (with_reducible first | exact HSUB.out | exact HSUB'.out); (simp only [List.set_cons_succ, List.set_cons_zero]; exact rfl))
                  | ((with_reducible apply q_kn); exact rfl; (with_reducible apply t_cmp); (apply EvC.now; exact rfl); (apply EvC.now; exact rfl); (with_reducible first | exact HG.out | exact HG'.out | exact HLT.out | exact HEQ.out); (simp only [List.set_cons_succ, List.set_cons_zero]; exact rfl))
                  | ((with_reducible apply q_kn); exact rfl; (first | ((with_reducible first | apply t_move | apply t_assign | apply t_addr (fRec _ (by decide)) | apply t_addr (fFix _ (by decide)) | apply t_one tByteR | apply t_one tSlR | apply t_one tIntR | apply t_one tWordF | apply t_one tBoolF | apply t_part tFix) <;> (first | (apply EvC.gv; exact rfl; (with_reducible first | exact Imp.refl _ | (apply Imp.left; exact Imp.refl _) | (apply Imp.right; exact Imp.refl _) | (apply Imp.left; apply Imp.left; exact Imp.refl _))) | (apply EvC.now; exact rfl) | exact rfl | (with_reducible exact EvAll.nil) | (focus (repeat (first | apply EvAll.cons | exact EvAll.nil | (apply EvC.gv; exact rfl; (with_reducible first | exact Imp.refl _ | (apply Imp.left; exact Imp.refl _) | (apply Imp.right; exact Imp.refl _) | (apply Imp.left; apply Imp.left; exact Imp.refl _))) | (apply EvC.now; exact rfl))); done) | exact ext_fix _ | (focus (repeat (first | apply List.Mem.head | apply List.Mem.tail | apply List.mem_append_right))))) | ((with_reducible apply t_pick); (apply EvC.now; exact rfl); (apply EvC.now; exact rfl))); (simp only [List.set_cons_succ, List.set_cons_zero]; exact rfl))
                  | ((with_reducible apply wpT1_skipL); exact rfl; (simp only [List.set_cons_succ, List.set_cons_zero]; exact rfl)))
              refine wpG_end hR (by kernel_rfl) ?_
              clear hR; intro w hR
              go_upto_if 120 with fail
              refine wp_cond_at (nm := false) rfl rfl (fun h => absurd h (by decide)) (fun _ => ?_)
              go_wp2_with fail
              go_round
              case rel => exact ⟨i + 1 + 1, rfl, by omega, hR⟩
              case measure => simp [intOf]; omega
            · have HEQ := Lib.hid (show cmpB .eql f.a g.a = some true from congrArg some (decide_eq_true (by omega)))
              have HLE := Lib.hid (show cmpB .leq f.n g.n = some false from congrArg some (decide_eq_false (by omega)))
              clear hnx
              go_upto_region 16 with fail
              refine wp_region_rows hR [0, 1, 2, 3, 4, 5, 6, 7, 8, 9, 10, 11, 12, 13, 14, 15, 16, 17, 18, 19, 20, 21, 22, 23, 24, 25, 26, 27, 28, 29, 30, 31, 32, 33, 34, 35, 36, 37, 38, 39, 40, 41, 42, 43] 0 (by kernel_rfl) (by kernel_rfl) (by kernel_rfl) rfl ?_
              clear hR; intro hR
              repeat (refine wpT_step rfl ?_; first
                  | ((with_reducible apply q_kn); exact rfl; (with_reducible apply t_six Try.underlying34 iFix); (apply EvC.now; exact rfl); (apply EvC.now; exact rfl); (constructor <;> omega); (simp only [List.set_cons_succ, List.set_cons_zero]; exact rfl))
                  | ((with_reducible apply q_kn); exact rfl; (with_reducible apply t_fieldA (fFixA _ (by decide))); (apply EvC.now; exact rfl); (simp only [List.set_cons_succ, List.set_cons_zero]; exact rfl))
                  | ((with_reducible apply q_kn); exact rfl; (with_reducible apply t_oldOne tIntR); (apply EvC.now; exact rfl); (with_reducible first | exact HYA.out | exact HGA.out | exact HYN.out | exact HGN.out); exact rfl; (simp only [List.set_cons_succ, List.set_cons_zero]; exact rfl))
                  | ((with_reducible apply q_kn); exact rfl; (with_reducible apply t_numE); (apply EvC.now; exact rfl); (apply EvC.now; exact rfl); exact rfl; (with_reducible first | exact HSUB.out | exact HSUB'.out); (simp only [List.set_cons_succ, List.set_cons_zero]; exact rfl))
                  | ((with_reducible apply q_kn); exact rfl; (with_reducible apply t_cmp); (apply EvC.now; exact rfl); (apply EvC.now; exact rfl); (with_reducible first | exact HG.out | exact HG'.out | exact HLT.out | exact HEQ.out | exact HLE.out); (simp only [List.set_cons_succ, List.set_cons_zero]; exact rfl))
                  | ((with_reducible apply q_kn); exact rfl; (first | ((with_reducible first | apply t_move | apply t_assign | apply t_addr (fRec _ (by decide)) | apply t_addr (fFix _ (by decide)) | apply t_one tByteR | apply t_one tSlR | apply t_one tIntR | apply t_one tWordF | apply t_one tBoolF | apply t_part tFix) <;> (first | (apply EvC.gv; exact rfl; (with_reducible first | exact Imp.refl _ | (apply Imp.left; exact Imp.refl _) | (apply Imp.right; exact Imp.refl _) | (apply Imp.left; apply Imp.left; exact Imp.refl _))) | (apply EvC.now; exact rfl) | exact rfl | (with_reducible exact EvAll.nil) | (focus (repeat (first | apply EvAll.cons | exact EvAll.nil | (apply EvC.gv; exact rfl; (with_reducible first | exact Imp.refl _ | (apply Imp.left; exact Imp.refl _) | (apply Imp.right; exact Imp.refl _) | (apply Imp.left; apply Imp.left; exact Imp.refl _))) | (apply EvC.now; exact rfl))); done) | exact ext_fix _ | (focus (repeat (first | apply List.Mem.head | apply List.Mem.tail | apply List.mem_append_right))))) | ((with_reducible apply t_pick); (apply EvC.now; exact rfl); (apply EvC.now; exact rfl))); (simp only [List.set_cons_succ, List.set_cons_zero]; exact rfl))
                  | ((with_reducible apply wpT1_skipL); exact rfl; (simp only [List.set_cons_succ, List.set_cons_zero]; exact rfl)))
              refine wpG_end hR (by kernel_rfl) ?_
              clear hR; intro w hR
              go_upto_if 120 with fail
              refine wp_cond_at (nm := false) rfl rfl (fun h => absurd h (by decide)) (fun _ => ?_)
              go_wp2_with fail
              go_round
              case rel => exact ⟨i + 1 + 1, rfl, by omega, hR⟩
              case measure => simp [intOf]; omega
        · refine wp_cond_at (nm := false) rfl (by simp; omega) (fun h => absurd h (by decide)) (fun _ => ?_)
          go_wp2_with (first
    | (go_at_call 9; refine (awake25_any _).mono ?_; rintro e w' ⟨rfl, hb⟩; replace hR := hR.grow hb; clear hb))
          go_ret
          exact ⟨rfl, (hZ.own hR).below⟩

set_option maxRecDepth 100000 in
theorem lifted (os : Os) (started : os.Started) (H : Type) (enc : TypeId × Value → H) :
    ReturnsInHanded {} Try.checked os 6 .any (Rows.fixupSortedSpec.pre6 enc Try.prog Try.f6 Rows.fixupSortedRow.domain false) (Rows.fixupSortedSpec.post enc Try.prog Try.f6 false true false false) := by
  refine returnsInHanded_of_change (C := Try.checked) own started (by kernel_rfl) Try.func6
    (ChangeSpec.witness6 (enc := enc) (C := Try.checked) false ⟨#[], #[.slice none 0 0], []⟩ 8 (by kernel_rfl) (by kernel_rfl) (by kernel_rfl) (by kernel_rfl)) ?_
  intro W base args ds gs before hval0 hW hcnd _
  have hval : ∀ (j : Nat) t v, Try.f6.params[j]? = some t → args[j]? = some v → Value.okWide Try.prog W .any base t v := hval0
  have hW' := hW
  obtain ⟨p, q, hA0, hV, rfl, hfz, hnd⟩ := hW
  have hA : DataW.TrodAll enc Try.prog W 0 (fun _ => true) true Try.f6.params.toList args.toList ds p := hA0
  rw [Try.params6] at hA hval
  obtain ⟨v0, vs0, d0, ds0, p0, q0, hargs, rfl, rfl, h0, r0⟩ := trodAll_cons hA
  obtain ⟨rfl, rfl, rfl⟩ := trodAll_nil r0
  obtain rfl : args = #[v0] := by cases args; simp_all
  obtain ⟨rfl, rfl⟩ := trodVars_none hV
  have k0 := h0
  have lt0 : ∀ x ∈ p0, x.block < W.heap.size := by obtain ⟨m, hm⟩ := k0; exact DataW.trod_lt m _ _ _ hm
  have o0 := open_fixes (hval 0 34 v0 rfl rfl) h0
  clear hA0 hval0
  refine (walk v0 o0 W).mono fun e W' ⟨he, bel⟩ => ?_
  subst he
  exact ⟨_, rfl, _, _, _, [], _, [], hW', trodAll_mk1 (shut_bool Try.underlying4 _), (trodAll_cons_mk (Below.trod laidOut (by kernel_rfl) (of_decide_eq_true (by kernel_rfl)) k0 bel lt0) trodAll_mk0), rfl, bel.frame _, fun h => by cases h⟩

theorem over : Rows.fixupSortedRow.holds Try.pinned (OpenSpec.ofChange Rows.fixupSortedSpec) :=
  OpenClaim.holds_of_wide 6 Try.f6 rfl rfl rfl rfl rfl rfl rfl ⟨rfl, rfl, rfl, rfl, rfl⟩ rfl rfl rfl rfl rfl (by kernel_rfl) Try.func6 (by kernel_rfl)
    (of_decide_eq_true (by kernel_rfl)) (by unfold Func.isWrapper; first | (rw [if_pos (by decide +kernel)]; kernel_rfl) | (rw [if_neg (by decide +kernel)]; exact ⟨rfl, rfl⟩))
    (fun os started H enc _ => lifted os started H enc)

theorem proved : Rows.FixupSortedSaid := over
#print axioms proved
end Go.Proofs.Ytimciiaajlfkoaa.fixupSorted
