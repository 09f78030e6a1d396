/- The law SegsGroup (a group's record, there and back; another byte ahead of a segment is none of it) returns true whatever the arguments, and each argument reads afterwards as before. There is no condition on the arguments. -/
import Derived.Test.YtmdiemebfmnmkaaRows
import Derived.Test.YtmdiemebfmnmkaaLaw21
import Derived.Test.YtmdiemebfmnmkaaAppG
import Derived.WalkKit
import Derived.ProofKit
import Derived.OpenShut
import Derived.ShutString
import Derived.ChangeOld
import Derived.Below
namespace Go.Proofs.Ytmdiemebfmnmkaa.segsGroup
open Go.ChangeShapes Go.WideShapes Go.ChangeAt Go.RowKit
open Go.ChangeMaps (open_string shut_string)
set_option linter.unusedVariables false
set_option linter.unusedSimpArgs false

theorem own : ownKnob Try.prog.godebug = none := by kernel_rfl
theorem laidOut : laidOutB Try.prog = true := by kernel_rfl










def takeG (l : List Int) (k : Nat) : List Int := (l.take k).map (· % 1024)
theorem takeG_more {l : List Int} {k : Nat} {x : Int} (h : l[k]? = some x) : takeG l (k + 1) = takeG l k ++ [x % 1024] := by
  unfold takeG; rw [List.take_add_one, h]; simp
theorem takeG_len {l : List Int} {k : Nat} (h : k ≤ l.length) : (takeG l k).length = k := by
  unfold takeG; rw [List.length_map, List.length_take]; omega
theorem takeG_bd {l : List Int} {k : Nat} : ∀ x ∈ takeG l k, 0 ≤ x ∧ x ≤ 1023 := by
  intro x hx
  obtain ⟨y, _, rfl⟩ := List.mem_map.1 hx
  omega
def LoopIs (w0 : World) (g7 : Nat) (n : Int) (l : List Int) (i : Value) (wr : World) : Prop :=
  ∃ (k : Nat) (sl : List RowT) (v : Value), i = .int .i64 k ∧ k ≤ 12 ∧ k ≤ l.length ∧ Own w0 wr (sl ++ [(g7, encG n v, 42)]) ∧ Sl 3 1 sl v k ((takeG l k).flatMap cellI)
theorem bG (n : Int) : Built Try.prog 42 [(0, .int .i64 n)] (encG n (.slice none 0 0)) := ⟨by kernel_rfl⟩
theorem put_sl (n : Int) (v : Value) (a : Option Addr) (m c : Nat) : PutRel (encG n v) 1 [.slice a m c] (encG n (.slice a m c)) := ⟨rfl⟩
theorem Sl.shapeI {e : TypeId} {s : List RowT} {v : Value} {n : Nat} {xs : List Value} (h : Sl e 1 s v n xs) : ∃ a m c, v = .slice a m c := by
  rcases h.way with ⟨_, h2, _⟩ | ⟨g, cap, cur, _, h2, _⟩
  · exact ⟨_, _, _, h2⟩
  · exact ⟨_, _, _, h2⟩
theorem bSteps : BuiltS Try.prog 40 5 [(0, .int .i64 1), (1, .int .i64 1), (2, .int .i64 2), (3, .int .i64 16), (4, .int .i64 256)] 3 #[.int .i64 1, .int .i64 1, .int .i64 2, .int .i64 16, .int .i64 256] := ⟨fun w => by simp [go_sem]⟩
theorem step_at (m : Nat) (h : m < 5) : (#[Value.int .i64 1, .int .i64 1, .int .i64 2, .int .i64 16, .int .i64 256] : Array Value).toList[m]? = some (.int .i64 (stepS m)) := by
  match m, h with
  | 0, _ => rfl
  | 1, _ => rfl
  | 2, _ => rfl
  | 3, _ => rfl
  | 4, _ => rfl
theorem Upd.skip {g : Nat} {c' : Array Value} {l l' : List RowT} (A : List RowT) (h : Upd g c' l l') : Upd g c' (A ++ l) (A ++ l') := by
  induction A with
  | nil => exact h
  | cons x A ih => exact .tail ih
set_option maxHeartbeats 8000000 in
set_option maxRecDepth 100000 in
theorem walk {w0 : World} (name : Int) (hn : (Lit.int .i64 name).wf = true) (v1 : Value) (hA : IntsIn w0 v1) (at' : Int) (ha : (Lit.int .i64 at').wf = true) (wi : World) :
    Calls Try.prog 5 #[.int .i64 name, v1, .int .i64 at'] w0 fun e w' => e = .returned (.bool true) ∧ Below w0.heap.size w0 w' := by
  clear wi
  obtain ⟨l, hlb, hl⟩ := hA
  have hR := Own.start w0
  obtain ⟨n, hne⟩ : ∃ n, name % 32768 = n := ⟨_, rfl⟩
  have hnb : 0 ≤ n ∧ n ≤ 32767 := by omega
  have HN := Lib.hid (show bits .and .i64 name 32767 = n from (i64_mask name 15 32767 (by decide) (by decide)).trans hne)
  clear hne
  go_enter Try.func5, Try.ntmps5
  go_wp2_with (first
    | ((with_reducible apply q_ls hR); exact rfl; (with_reducible apply t_numE); (apply EvC.now; exact rfl); (apply EvC.now; exact rfl); exact rfl; exact HN.out; (simp only [List.set_cons_succ, List.set_cons_zero]; exact rfl); clear hR; intro w hR)
    | ((with_reducible apply wpList_built); exact rfl; exact rfl; exact bG _; (simp only [List.set_cons_succ, List.set_cons_zero]; exact rfl))
    | ((with_reducible apply wpList_make hR zGrp); exact rfl; clear hR; intro g7 w hR; simp only [List.set_cons_succ, List.set_cons_zero])
    | ((with_reducible apply wpList_put hR tGrp); exact rfl; exact rfl; exact rfl; (focus (repeat (first | apply List.Mem.head | exact hm7 | exact hm9 | exact hm10 | apply List.Mem.tail | apply List.mem_append_right))); exact put_grp _ _ _ _; exact rfl; simp [encG]; simp [encG, Value.oneCell']; (focus (repeat (first | apply Upd.head | apply Upd.tail))); clear hR; intro w hR))

  go_loopw [8] (fun i wr => LoopIs w0 g7 n l i wr) (fun i _ => 12 - (intOf i).toNat)
  case atStart => exact ⟨0, [], _, rfl, by decide, Nat.zero_le _, hR, Sl.nil _ _⟩
  case round =>
    clear hR
    obtain ⟨k, sl, vg, rfl, hk12, hkl, hR, hS⟩ := hrel
    go_upto_region 3 with fail
    refine wp_region_tame hR [0, 1, 2, 3, 4, 5, 6, 7] rfl ?_
    repeat (refine wpT_step rfl ?_; first
    | ((with_reducible apply q_pl); (with_reducible apply t_lenRd Try.underlying40); (apply EvC.now; exact rfl); exact hl; (simp only [List.set_cons_succ, List.set_cons_zero]; exact rfl))
    | ((first | (with_reducible apply q_pl) | ((with_reducible apply q_gd); (first | (apply GdBy.gt; exact rfl; exact rfl) | (apply GdBy.gf; exact rfl; exact rfl) | (apply GdBy.t; exact rfl; exact rfl) | (apply GdBy.f; exact rfl; exact rfl)))); (first | ((with_reducible first | apply t_move | apply t_assign | apply t_and | apply t_or | apply t_cmp | apply t_not | apply t_addr (fRec _ (by decide)) | apply t_addr (fGrp _ (by decide)) | apply t_one tByteR | apply t_one tSlR | apply t_one tIntR | apply t_one tIntsO | apply t_part tGrp) <;> (first | (apply EvC.gv; exact rfl; (with_reducible first | exact Imp.refl _ | (apply Imp.left; exact Imp.refl _) | (apply Imp.right; exact Imp.refl _) | (apply Imp.left; apply Imp.left; exact Imp.refl _))) | (apply EvC.now; exact rfl) | exact rfl | (with_reducible exact EvAll.nil) | (focus (repeat (first | apply EvAll.cons | exact EvAll.nil | (apply EvC.gv; exact rfl; (with_reducible first | exact Imp.refl _ | (apply Imp.left; exact Imp.refl _) | (apply Imp.right; exact Imp.refl _) | (apply Imp.left; apply Imp.left; exact Imp.refl _))) | (apply EvC.now; exact rfl))); done) | exact ext_grp _ _ | (focus (repeat (first | apply List.Mem.head | exact hm7 | exact hm9 | exact hm10 | apply List.Mem.tail | apply List.mem_append_right)))))); (simp only [List.set_cons_succ, List.set_cons_zero]; exact rfl))
    | ((with_reducible apply q_gd); (first | (apply GdBy.gt; exact rfl; exact rfl) | (apply GdBy.gf; exact rfl; exact rfl) | (apply GdBy.t; exact rfl; exact rfl) | (apply GdBy.f; exact rfl; exact rfl)); ((with_reducible apply t_num) <;> (first | (apply EvC.gv; exact rfl; (with_reducible first | exact Imp.refl _ | (apply Imp.left; exact Imp.refl _) | (apply Imp.right; exact Imp.refl _) | (apply Imp.left; apply Imp.left; exact Imp.refl _))) | (apply EvC.now; exact rfl) | exact rfl | (with_reducible exact EvAll.nil) | (focus (repeat (first | apply EvAll.cons | exact EvAll.nil | (apply EvC.gv; exact rfl; (with_reducible first | exact Imp.refl _ | (apply Imp.left; exact Imp.refl _) | (apply Imp.right; exact Imp.refl _) | (apply Imp.left; apply Imp.left; exact Imp.refl _))) | (apply EvC.now; exact rfl))); done) | exact ext_grp _ _ | (focus (repeat (first | apply List.Mem.head | exact hm7 | exact hm9 | exact hm10 | apply List.Mem.tail | apply List.mem_append_right))))); (simp only [List.set_cons_succ, List.set_cons_zero]; exact rfl))
    | ((with_reducible apply wpT1_gpure); (first | (apply GdBy.gt; exact rfl; exact rfl) | (apply GdBy.gf; exact rfl; exact rfl) | (apply GdBy.t; exact rfl; exact rfl) | (apply GdBy.f; exact rfl; exact rfl)); intro K hK; go_simp; refine hK _ ?_; clear hK K; simp only [List.set_cons_succ, List.set_cons_zero])
    | ((with_reducible apply wpT1_pure); exact rfl; intro K hK; go_simp; refine hK _ ?_; clear hK K; simp only [List.set_cons_succ, List.set_cons_zero]))
    refine wpT_nil ?_
    clear hR; intro w hR
    go_upto_if 26 with fail
    refine wp_cond_at (nm := decide ((k : Int) < (l.length : Int)) && decide ((k : Int) < 12)) rfl rfl (fun h => ?_) (fun h => ?_)
    · simp only [Bool.and_eq_true, decide_eq_true_eq] at h
      have hlt : k < l.length := by omega
      have h12 : k < 12 := by omega
      clear h
      obtain ⟨x, hx⟩ : ∃ x, l[k]? = some x := ⟨_, List.getElem?_eq_getElem hlt⟩
      obtain ⟨a, cap, rfl, hcell⟩ := hl.el hx
      have HC := Lib.hid (show w0.cell? (a.add ((k : Int).toNat * 1)) = some (.int .i64 x) by rw [Int.toNat_natCast, Nat.mul_one]; exact hcell)
      have HX := Lib.hid (show bits .and .i64 x 1023 = x % 1024 from i64_mask x 10 1023 (by decide) (by decide))
      have HTM := Lib.hid (takeG_more hx)
      clear hcell hx
      go_upto_region 5 with fail
      refine wp_region_some hR [] (List.nil_sublist _) [0, 2, 3, 4, 5, 6] 5 (by kernel_rfl) (by kernel_rfl) (by kernel_rfl) rfl ?_
      clear hR; intro hR
      repeat (refine wpT_step rfl ?_; first
    | ((with_reducible apply q_pl); (with_reducible apply t_addr (fGrp _ (by decide))); (apply EvC.now; exact rfl); (simp only [List.set_cons_succ, List.set_cons_zero]; exact rfl))
    | ((with_reducible apply q_pl); (with_reducible apply t_six Try.underlying40 iIntO); (apply EvC.now; exact rfl); (apply EvC.now; exact rfl); (constructor <;> omega); (simp only [List.set_cons_succ, List.set_cons_zero]; exact rfl))
    | ((with_reducible apply q_pl); (with_reducible apply t_oldOne tIntO); (apply EvC.now; exact rfl); (exact HC.out); (exact rfl); (simp only [List.set_cons_succ, List.set_cons_zero]; exact rfl))
    | ((first | (with_reducible apply q_pl) | ((with_reducible apply q_gd); (first | (apply GdBy.gt; exact rfl; exact rfl) | (apply GdBy.gf; exact rfl; exact rfl) | (apply GdBy.t; exact rfl; exact rfl) | (apply GdBy.f; exact rfl; exact rfl)))); (with_reducible apply t_numE); (first | (apply EvC.gv; exact rfl; (with_reducible first | exact Imp.refl _ | (apply Imp.left; exact Imp.refl _) | (apply Imp.right; exact Imp.refl _) | (apply Imp.left; apply Imp.left; exact Imp.refl _))) | (apply EvC.now; exact rfl) | exact rfl | (with_reducible exact EvAll.nil) | (focus (repeat (first | apply EvAll.cons | exact EvAll.nil | (apply EvC.gv; exact rfl; (with_reducible first | exact Imp.refl _ | (apply Imp.left; exact Imp.refl _) | (apply Imp.right; exact Imp.refl _) | (apply Imp.left; apply Imp.left; exact Imp.refl _))) | (apply EvC.now; exact rfl))); done) | exact ext_grp _ _ | (focus (repeat (first | apply List.Mem.head | exact hm7 | exact hm9 | exact hm10 | apply List.Mem.tail | apply List.mem_append_right)))); (first | (apply EvC.gv; exact rfl; (with_reducible first | exact Imp.refl _ | (apply Imp.left; exact Imp.refl _) | (apply Imp.right; exact Imp.refl _) | (apply Imp.left; apply Imp.left; exact Imp.refl _))) | (apply EvC.now; exact rfl) | exact rfl | (with_reducible exact EvAll.nil) | (focus (repeat (first | apply EvAll.cons | exact EvAll.nil | (apply EvC.gv; exact rfl; (with_reducible first | exact Imp.refl _ | (apply Imp.left; exact Imp.refl _) | (apply Imp.right; exact Imp.refl _) | (apply Imp.left; apply Imp.left; exact Imp.refl _))) | (apply EvC.now; exact rfl))); done) | exact ext_grp _ _ | (focus (repeat (first | apply List.Mem.head | exact hm7 | exact hm9 | exact hm10 | apply List.Mem.tail | apply List.mem_append_right)))); exact rfl; (exact HX.out); (simp only [List.set_cons_succ, List.set_cons_zero]; exact rfl))
    | ((with_reducible apply q_pl); (with_reducible apply t_move); (apply EvC.now; exact rfl); (simp only [List.set_cons_succ, List.set_cons_zero]; exact rfl)))
      refine wpT_nil ?_
      refine wpG_two hR (i := 1) (j := 7) (by kernel_rfl) ?_ ?_
      · clear hR; intro w hR
        refine opQ hR rfl rfl (t_one tIntsO (EvC.now rfl) (by (focus (repeat (first | apply List.Mem.head | exact hm7 | exact hm9 | exact hm10 | apply List.Mem.tail | apply List.mem_append_right)))) rfl) (by (simp only [List.set_cons_succ, List.set_cons_zero]; exact rfl)) ?_
        clear hR; intro w hR
        refine ⟨hR.drop (List.nil_sublist _), ?_⟩
        refine wpG_one hR (i := 7) (by kernel_rfl) ?_
        clear hR; intro w hR
        refine opBuildS hR rfl rfl rfl (bInts1 _) ?_
        clear hR; intro g9 w hR
        refine ⟨hR.drop (List.nil_sublist _), ?_⟩
        simp only [List.set_cons_succ, List.set_cons_zero]
        refine wpG_appG hR (i := 8) (by kernel_rfl) tIntsB rfl rfl rfl rfl (Les.tail Les.head) hS (fun w1 h1 => rd_int h1 (.head _)) (by simp only [maxLen]; omega) (by omega) (List.nil_sublist _) ?_
        clear hR hS; intro s2 v2 w hR hS
        simp only [List.set_cons_succ, List.set_cons_zero]
        obtain ⟨a2, m2, c2, rfl⟩ := Sl.shapeI hS
        refine wpG_addr hR (i := 9) (fGrp 1 (by decide)) (by kernel_rfl) rfl rfl (by (simp only [List.set_cons_succ, List.set_cons_zero]; exact rfl)) ?_
        clear hR; intro w hR
        refine wpG_put1 (l' := s2 ++ [(_, _, _), (g7, encG n (.slice a2 m2 c2), 42)]) hR tIntsO (i := 10) (by kernel_rfl) rfl rfl rfl (by (focus (repeat (first | apply List.Mem.head | exact hm7 | exact hm9 | exact hm10 | apply List.Mem.tail | apply List.mem_append_right)))) (put_sl _ _ _ _ _) (by simp [encG]) rfl (Upd.skip _ (.tail .head)) (List.nil_sublist _) ?_
        clear hR; intro w hR
        refine wpG_end hR (by kernel_rfl) ?_
        clear hR; intro w hR
        go_wp2_with fail
        go_round
        case rel => exact ⟨k + 1, s2, _, rfl, by omega, by omega, hR.drop ((List.Sublist.refl s2).append (.cons _ (List.Sublist.refl _))), by rw [HTM.out, List.flatMap_append]; exact hS.cast (by simp)⟩
        case measure => simp [intOf]; omega
      · clear hR; intro w hR
        refine opBuildS hR rfl rfl rfl (bInts1 _) ?_
        clear hR; intro g9 w hR
        refine ⟨hR.drop (List.nil_sublist _), ?_⟩
        simp only [List.set_cons_succ, List.set_cons_zero]
        refine wpG_one hR (i := 1) (by kernel_rfl) ?_
        clear hR; intro w hR
        refine opQ hR rfl rfl (t_one tIntsO (EvC.now rfl) (by (focus (repeat (first | apply List.Mem.head | exact hm7 | exact hm9 | exact hm10 | apply List.Mem.tail | apply List.mem_append_right)))) rfl) (by (simp only [List.set_cons_succ, List.set_cons_zero]; exact rfl)) ?_
        clear hR; intro w hR
        refine ⟨hR.drop (List.nil_sublist _), ?_⟩
        refine wpG_appG hR (i := 8) (by kernel_rfl) tIntsB rfl rfl rfl rfl (Les.tail Les.head) hS (fun w1 h1 => rd_int h1 (.head _)) (by simp only [maxLen]; omega) (by omega) (List.nil_sublist _) ?_
        clear hR hS; intro s2 v2 w hR hS
        simp only [List.set_cons_succ, List.set_cons_zero]
        obtain ⟨a2, m2, c2, rfl⟩ := Sl.shapeI hS
        refine wpG_addr hR (i := 9) (fGrp 1 (by decide)) (by kernel_rfl) rfl rfl (by (simp only [List.set_cons_succ, List.set_cons_zero]; exact rfl)) ?_
        clear hR; intro w hR
        refine wpG_put1 (l' := s2 ++ [(_, _, _), (g7, encG n (.slice a2 m2 c2), 42)]) hR tIntsO (i := 10) (by kernel_rfl) rfl rfl rfl (by (focus (repeat (first | apply List.Mem.head | exact hm7 | exact hm9 | exact hm10 | apply List.Mem.tail | apply List.mem_append_right)))) (put_sl _ _ _ _ _) (by simp [encG]) rfl (Upd.skip _ (.tail .head)) (List.nil_sublist _) ?_
        clear hR; intro w hR
        refine wpG_end hR (by kernel_rfl) ?_
        clear hR; intro w hR
        go_wp2_with fail
        go_round
        case rel => exact ⟨k + 1, s2, _, rfl, by omega, by omega, hR.drop ((List.Sublist.refl s2).append (.cons _ (List.Sublist.refl _))), by rw [HTM.out, List.flatMap_append]; exact hS.cast (by simp)⟩
        case measure => simp [intOf]; omega
    · clear h hl
      obtain ⟨X, hXe⟩ : ∃ X, takeG l k = X := ⟨_, rfl⟩
      have hXl : X.length ≤ 12 := by rw [← hXe, takeG_len hkl]; exact hk12
      have hXk : X.length = k := by rw [← hXe, takeG_len hkl]
      have hXb : ∀ x ∈ X, 0 ≤ x ∧ x ≤ 1023 := by rw [← hXe]; exact takeG_bd
      have hX15 : ∀ x ∈ X, 0 ≤ x ∧ x ≤ 32767 := fun x hx => by have := hXb x hx; omega
      have hX64 : ∀ x ∈ X, -9223372036854775808 ≤ x ∧ x ≤ 9223372036854775807 := fun x hx => by have := hXb x hx; omega
      rw [hXe] at hS
      clear hXe hk12 hkl hlb
      subst hXk
      have hIR := Sl.intsR hS
      have hbo := grpB_ok n X
      have hbl := grpB_len n X
      have HBACK := Lib.hid (grp_back hnb hX15)
      obtain ⟨y, hye⟩ : ∃ y, at' % 128 = y := ⟨_, rfl⟩
      have hyb : 0 ≤ y ∧ y ≤ 127 := by omega
      have HY := Lib.hid (show bits .and .i64 at' 127 = y from (i64_mask at' 7 127 (by decide) (by decide)).trans hye)
      have HMORE := Lib.hid (grp_more (x := y) (y := 1) hnb hX15 (by omega))
      have HREF := Lib.hid (fun w (h : Ints w vg X) => r21grp_any n vg X h hX64 (by omega) (by omega))
      obtain ⟨bs, hbs⟩ : ∃ bs, grpB n X = bs := ⟨_, rfl⟩
      have hg := fun w (h : Ints w vg X) => segGroup_any n vg X h hX64 (by omega) (by omega)
      rw [hbs] at hbo hbl HBACK HMORE HREF hg
      obtain ⟨hbl0, hbl1⟩ := hbl
      have hy8 : bytesOk [y, 1] := .cons (by omega) (.cons (by decide) .nil)
      clear hbs hye
      go_wp2_with (first
    | ((with_reducible apply q_ls hR); exact rfl; ((with_reducible first | apply t_addr (fRec _ (by decide)) | apply t_addr (fGrp _ (by decide)) | apply t_one tByteR | apply t_one tSlR | apply t_one tIntR | apply t_one tIntsO | apply t_part tGrp) <;> (first | (apply EvC.gv; exact rfl; (with_reducible first | exact Imp.refl _ | (apply Imp.left; exact Imp.refl _) | (apply Imp.right; exact Imp.refl _) | (apply Imp.left; apply Imp.left; exact Imp.refl _))) | (apply EvC.now; exact rfl) | exact rfl | (with_reducible exact EvAll.nil) | (focus (repeat (first | apply EvAll.cons | exact EvAll.nil | (apply EvC.gv; exact rfl; (with_reducible first | exact Imp.refl _ | (apply Imp.left; exact Imp.refl _) | (apply Imp.right; exact Imp.refl _) | (apply Imp.left; apply Imp.left; exact Imp.refl _))) | (apply EvC.now; exact rfl))); done) | exact ext_grp _ _ | (focus (repeat (first | apply List.Mem.head | exact hm7 | exact hm9 | exact hm10 | apply List.Mem.tail | apply List.mem_append_right))))); (simp only [List.set_cons_succ, List.set_cons_zero]; exact rfl); clear hR; intro w hR))
      refine (hg _ (hIR _ _ _ hR (fun r h => List.mem_append_left _ h))).mono ?_
      rintro e w1 ⟨sr, vr, rfl, hO, hV⟩
      replace hR := hR.join hO
      have hVn := hV _ _ _ hO fun _ h => h
      have hIn := hIR _ _ _ hR (fun r h => List.mem_append_right _ (List.mem_append_left _ h))
      clear hO hg
      go_upto_region 7 with (first
    | ((with_reducible apply wpList_make hR zRec); exact rfl; clear hR; intro g9 w hR; simp only [List.set_cons_succ, List.set_cons_zero])
    | ((with_reducible apply wpList_put hR tRec); exact rfl; exact rfl; exact rfl; (focus (repeat (first | apply List.Mem.head | exact hm7 | exact hm9 | exact hm10 | apply List.Mem.tail | apply List.mem_append_right))); exact put_rec _ _ _ _; exact rfl; simp; exact one_rec _ hVn; (focus (repeat (first | apply Upd.head | apply Upd.tail))); clear hR; intro w hR))
      go_wp2_with (first
    | ((with_reducible apply q_ls hR); exact rfl; ((with_reducible first | apply t_addr (fRec _ (by decide)) | apply t_addr (fGrp _ (by decide)) | apply t_one tByteR | apply t_one tSlR | apply t_one tIntR | apply t_one tIntsO | apply t_part tGrp) <;> (first | (apply EvC.gv; exact rfl; (with_reducible first | exact Imp.refl _ | (apply Imp.left; exact Imp.refl _) | (apply Imp.right; exact Imp.refl _) | (apply Imp.left; apply Imp.left; exact Imp.refl _))) | (apply EvC.now; exact rfl) | exact rfl | (with_reducible exact EvAll.nil) | (focus (repeat (first | apply EvAll.cons | exact EvAll.nil | (apply EvC.gv; exact rfl; (with_reducible first | exact Imp.refl _ | (apply Imp.left; exact Imp.refl _) | (apply Imp.right; exact Imp.refl _) | (apply Imp.left; apply Imp.left; exact Imp.refl _))) | (apply EvC.now; exact rfl))); done) | exact ext_grp _ _ | (focus (repeat (first | apply List.Mem.head | exact hm7 | exact hm9 | exact hm10 | apply List.Mem.tail | apply List.mem_append_right))))); (simp only [List.set_cons_succ, List.set_cons_zero]; exact rfl); clear hR; intro w hR))
      refine (segGroups_any (hV _ _ _ hR (fun r h => .tail _ (List.mem_append_left _ h))) (by omega)).mono ?_
      rw [HBACK.out]
      rintro e w2 ⟨s3, v3, rfl, hO, hI3⟩
      replace hR := hR.join hO
      have hI3n := hI3 _ _ _ hO fun _ h => h
      clear hO HBACK
      go_upto_region 8 with (first
    | ((with_reducible apply wpList_make hR zGrp); exact rfl; clear hR; intro g10 w hR; simp only [List.set_cons_succ, List.set_cons_zero])
    | ((with_reducible apply wpList_put hR tGrp); exact rfl; exact rfl; exact rfl; (focus (repeat (first | apply List.Mem.head | exact hm7 | exact hm9 | exact hm10 | apply List.Mem.tail | apply List.mem_append_right))); exact put_grp _ _ _ _; exact rfl; simp [encG]; exact one_grp _ hI3n; (focus (repeat (first | apply Upd.head | apply Upd.tail))); clear hR; intro w hR))
      obtain ⟨L, hL⟩ : ∃ L, ((g10, encG n v3, 42) :: (s3 ++ (g9, #[.int .u8 154, vr], 28) :: (sr ++ (sl ++ [(g7, encG n vg, 42)])))) = L := ⟨_, rfl⟩
      have hm10 : (g10, encG n v3, 42) ∈ L := by rw [← hL]; exact .head _
      have hm9 : (g9, #[.int .u8 154, vr], 28) ∈ L := by rw [← hL]; exact .tail _ (List.mem_append_right _ (.head _))
      have hm7 : (g7, encG n vg, 42) ∈ L := by rw [← hL]; exact .tail _ (List.mem_append_right _ (.tail _ (List.mem_append_right _ (List.mem_append_right _ (.head _)))))
      have hs3 : ∀ r ∈ s3, r ∈ L := fun r h => by rw [← hL]; exact .tail _ (List.mem_append_left _ h)
      have hsr : ∀ r ∈ sr, r ∈ L := fun r h => by rw [← hL]; exact .tail _ (List.mem_append_right _ (.tail _ (List.mem_append_left _ h)))
      have hsl : ∀ r ∈ sl, r ∈ L := fun r h => by rw [← hL]; exact .tail _ (List.mem_append_right _ (.tail _ (List.mem_append_right _ (List.mem_append_left _ h))))
      rw [hL] at hR
      clear hL hVn
      refine wp_region_rows hR [0, 1, 2, 3, 4, 5, 6, 7, 8, 9, 10, 11, 12, 13, 14, 15, 16, 17, 18, 19, 20, 21, 22, 23, 24, 25, 26, 27, 28, 29, 30] 0 (by kernel_rfl) (by kernel_rfl) (by kernel_rfl) rfl ?_
      clear hR; intro hR
      repeat (refine wpT_step rfl ?_; first
    | ((with_reducible apply q_kn); exact rfl; (with_reducible apply t_strW tTextN); (apply EvC.now; exact rfl); (exact fun w hC => hV _ _ _ hC hsr); (simp only [List.set_cons_succ, List.set_cons_zero]; exact rfl))
    | ((with_reducible apply q_kn); exact rfl; (with_reducible apply t_strsameN); (apply EvC.now; exact rfl); (apply EvC.now; exact rfl); (simp only [List.set_cons_succ, List.set_cons_zero]; exact rfl))
    | ((with_reducible apply q_kn); exact rfl; (with_reducible apply t_call Try.call15); (first | (apply EvC.gv; exact rfl; (with_reducible first | exact Imp.refl _ | (apply Imp.left; exact Imp.refl _) | (apply Imp.right; exact Imp.refl _) | (apply Imp.left; apply Imp.left; exact Imp.refl _))) | (apply EvC.now; exact rfl) | exact rfl | (with_reducible exact EvAll.nil) | (focus (repeat (first | apply EvAll.cons | exact EvAll.nil | (apply EvC.gv; exact rfl; (with_reducible first | exact Imp.refl _ | (apply Imp.left; exact Imp.refl _) | (apply Imp.right; exact Imp.refl _) | (apply Imp.left; apply Imp.left; exact Imp.refl _))) | (apply EvC.now; exact rfl))); done) | exact ext_grp _ _ | (focus (repeat (first | apply List.Mem.head | exact hm7 | exact hm9 | exact hm10 | apply List.Mem.tail | apply List.mem_append_right)))); (intro hcc w hC; exact tame_below (HREF.out _ (hIR _ _ _ hC hsl)) hC); (simp only [List.set_cons_succ, List.set_cons_zero]; exact rfl))
    | ((with_reducible apply q_kn); exact rfl; (with_reducible apply t_cmp); (apply EvC.now; exact rfl); (apply EvC.now; exact rfl); exact cmp_nselfS _; (simp only [List.set_cons_succ, List.set_cons_zero]; exact rfl))
    | ((with_reducible apply q_kn); exact rfl; (with_reducible apply t_lenRd Try.underlying40); (apply EvC.now; exact rfl); (first | exact hIn | exact hI3n); (simp only [List.set_cons_succ, List.set_cons_zero]; exact rfl))
    | ((with_reducible apply q_kn); exact rfl; ((with_reducible first | apply t_addr (fRec _ (by decide)) | apply t_addr (fGrp _ (by decide)) | apply t_one tByteR | apply t_one tSlR | apply t_one tIntR | apply t_one tIntsO | apply t_part tGrp) <;> (first | (apply EvC.now; exact rfl) | exact rfl | exact ext_grp _ _ | exact hm7 | exact hm9 | exact hm10)); (simp only [List.set_cons_succ, List.set_cons_zero]; exact rfl))
    | ((with_reducible apply q_kn); exact rfl; (first | ((with_reducible first | apply t_move | apply t_assign | apply t_addr (fRec _ (by decide)) | apply t_addr (fGrp _ (by decide)) | apply t_one tByteR | apply t_one tSlR | apply t_one tIntR | apply t_one tIntsO | apply t_part tGrp) <;> (first | (apply EvC.gv; exact rfl; (with_reducible first | exact Imp.refl _ | (apply Imp.left; exact Imp.refl _) | (apply Imp.right; exact Imp.refl _) | (apply Imp.left; apply Imp.left; exact Imp.refl _))) | (apply EvC.now; exact rfl) | exact rfl | (with_reducible exact EvAll.nil) | (focus (repeat (first | apply EvAll.cons | exact EvAll.nil | (apply EvC.gv; exact rfl; (with_reducible first | exact Imp.refl _ | (apply Imp.left; exact Imp.refl _) | (apply Imp.right; exact Imp.refl _) | (apply Imp.left; apply Imp.left; exact Imp.refl _))) | (apply EvC.now; exact rfl))); done) | exact ext_grp _ _ | (focus (repeat (first | apply List.Mem.head | exact hm7 | exact hm9 | exact hm10 | apply List.Mem.tail | apply List.mem_append_right))))) | ((with_reducible apply t_pick); (apply EvC.now; exact rfl); (apply EvC.now; exact rfl))); (simp only [List.set_cons_succ, List.set_cons_zero]; exact rfl)))
      refine wpG_end hR (by kernel_rfl) ?_
      clear hR; intro w hR
      go_upto_if 77 with fail
      refine wp_cond_at (nm := false) rfl rfl (fun h => absurd h (by decide)) (fun _ => ?_)
      have hr7 := hIn
      have hr3 := hI3n
      obtain ⟨a7, m7, c7, rfl⟩ := hIn.shape
      obtain ⟨a3, m3, c3, rfl⟩ := hI3n.shape
      clear hS hI3n hIn
      go_wp2_with fail
      go_loopw [12] (fun i wr => ∃ j : Nat, i = .int .i64 j ∧ j ≤ X.length ∧ Own w0 wr L) (fun i _ => X.length - (intOf i).toNat)
      case atStart => exact ⟨0, rfl, Nat.zero_le _, hR⟩
      case round =>
        clear hR
        obtain ⟨j, rfl, hj, hR⟩ := hrel
        go_upto_region 11 with fail
        refine wp_region_tame hR [0, 1, 2, 3, 4] rfl ?_
        repeat (refine wpT_step rfl ?_; first
    | ((with_reducible apply q_pl); ((with_reducible first | apply t_addr (fRec _ (by decide)) | apply t_addr (fGrp _ (by decide)) | apply t_one tByteR | apply t_one tSlR | apply t_one tIntR | apply t_one tIntsO | apply t_part tGrp) <;> (first | (apply EvC.now; exact rfl) | exact rfl | exact ext_grp _ _ | exact hm7 | exact hm9 | exact hm10)); (simp only [List.set_cons_succ, List.set_cons_zero]; exact rfl))
    | ((with_reducible apply q_pl); (with_reducible apply t_lenRd Try.underlying40); (apply EvC.now; exact rfl); exact hr7; (simp only [List.set_cons_succ, List.set_cons_zero]; exact rfl))
    | ((with_reducible apply q_pl); (with_reducible apply t_move); (apply EvC.now; exact rfl); (simp only [List.set_cons_succ, List.set_cons_zero]; exact rfl))
    | ((with_reducible apply q_gd); (first | (apply GdBy.gt; exact rfl; exact rfl) | (apply GdBy.gf; exact rfl; exact rfl) | (apply GdBy.t; exact rfl; exact rfl) | (apply GdBy.f; exact rfl; exact rfl)); ((with_reducible apply t_num) <;> (first | (apply EvC.gv; exact rfl; (with_reducible first | exact Imp.refl _ | (apply Imp.left; exact Imp.refl _) | (apply Imp.right; exact Imp.refl _) | (apply Imp.left; apply Imp.left; exact Imp.refl _))) | (apply EvC.now; exact rfl) | exact rfl | (with_reducible exact EvAll.nil) | (focus (repeat (first | apply EvAll.cons | exact EvAll.nil | (apply EvC.gv; exact rfl; (with_reducible first | exact Imp.refl _ | (apply Imp.left; exact Imp.refl _) | (apply Imp.right; exact Imp.refl _) | (apply Imp.left; apply Imp.left; exact Imp.refl _))) | (apply EvC.now; exact rfl))); done) | exact ext_grp _ _ | (focus (repeat (first | apply List.Mem.head | exact hm7 | exact hm9 | exact hm10 | apply List.Mem.tail | apply List.mem_append_right))))); (simp only [List.set_cons_succ, List.set_cons_zero]; exact rfl))
    | ((with_reducible apply wpT1_gpure); (first | (apply GdBy.gt; exact rfl; exact rfl) | (apply GdBy.gf; exact rfl; exact rfl) | (apply GdBy.t; exact rfl; exact rfl) | (apply GdBy.f; exact rfl; exact rfl)); intro K hK; go_simp; refine hK _ ?_; clear hK K; simp only [List.set_cons_succ, List.set_cons_zero])
    | ((with_reducible apply wpT1_pure); exact rfl; intro K hK; go_simp; refine hK _ ?_; clear hK K; simp only [List.set_cons_succ, List.set_cons_zero]))
        refine wpT_nil ?_
        clear hR; intro w hR
        go_upto_if 82 with fail
        by_cases hjl : j < X.length
        · refine wp_cond_at (nm := true) rfl (by simp; omega) (fun _ => ?_) (fun h => absurd h (by decide))
          obtain ⟨x, hx⟩ : ∃ x, X[j]? = some x := ⟨_, List.getElem?_eq_getElem hjl⟩
          obtain ⟨b7, c7', h7, _⟩ := hr7.el hx
          obtain ⟨b3, c3', h3, _⟩ := hr3.el hx
          injection h7 with e1 e2 e3
          injection h3 with f1 f2 f3
          subst e1 e2 e3 f1 f2 f3
          have HC7 := Lib.hid (show ∀ w, Own w0 w L → w.cell? (b7.add ((j : Int).toNat * 1)) = some (.int .i64 x) from fun w hC => by rw [Int.toNat_natCast, Nat.mul_one]; exact (hIR _ _ _ hC hsl).cell hx)
          have HC3 := Lib.hid (show ∀ w, Own w0 w L → w.cell? (b3.add ((j : Int).toNat * 1)) = some (.int .i64 x) from fun w hC => by rw [Int.toNat_natCast, Nat.mul_one]; exact (hI3 _ _ _ hC hs3).cell hx)
          go_upto_region 13 with fail
          refine wp_region_rows hR [0, 1, 2, 3, 4, 5, 6, 7, 8, 9, 10] 0 (by kernel_rfl) (by kernel_rfl) (by kernel_rfl) rfl ?_
          clear hR; intro hR
          repeat (refine wpT_step rfl ?_; first
    | ((with_reducible apply q_pl); ((with_reducible first | apply t_addr (fRec _ (by decide)) | apply t_addr (fGrp _ (by decide)) | apply t_one tByteR | apply t_one tSlR | apply t_one tIntR | apply t_one tIntsO | apply t_part tGrp) <;> (first | (apply EvC.now; exact rfl) | exact rfl | exact ext_grp _ _ | exact hm7 | exact hm9 | exact hm10)); (simp only [List.set_cons_succ, List.set_cons_zero]; exact rfl))
    | ((with_reducible apply q_pl); (with_reducible apply t_six Try.underlying40 iIntO); (apply EvC.now; exact rfl); (apply EvC.now; exact rfl); (constructor <;> omega); (simp only [List.set_cons_succ, List.set_cons_zero]; exact rfl))
    | ((with_reducible apply q_pl); (with_reducible apply t_cellW tIntO); (apply EvC.now; exact rfl); (with_reducible first | exact HC7.out | exact HC3.out); (simp only [List.set_cons_succ, List.set_cons_zero]; exact rfl))
    | ((with_reducible apply q_pl); (with_reducible apply t_cmp); (apply EvC.now; exact rfl); (apply EvC.now; exact rfl); exact cmp_nselfS _; (simp only [List.set_cons_succ, List.set_cons_zero]; exact rfl))
    | ((with_reducible apply q_pl); (with_reducible apply t_move); (apply EvC.now; exact rfl); (simp only [List.set_cons_succ, List.set_cons_zero]; exact rfl)))
          refine wpG_end hR (by kernel_rfl) ?_
          clear hR; intro w hR
          go_upto_if 95 with fail
          refine wp_cond_at (nm := false) rfl rfl (fun h => absurd h (by decide)) (fun _ => ?_)
          go_wp2_with fail
          go_round
          case rel => exact ⟨j + 1, rfl, by omega, hR⟩
          case measure => simp [intOf]; omega
        · refine wp_cond_at (nm := false) rfl (by simp; omega) (fun h => absurd h (by decide)) (fun _ => ?_)
          clear hj hjl hX64 HREF
          have H8 := Lib.hid (show IntKind.u8.wrap y = y from IntWalk.u8_in _ (by omega))
          obtain ⟨m, hm⟩ : ∃ m : Nat, at' % 256 % 5 = m := Int.eq_ofNat_of_zero_le (by omega)
          have hm5 : m < 5 := by omega
          have HK1 := Lib.hid (show bits .and .i64 at' 255 = at' % 256 from i64_mask at' 8 255 (by decide) (by decide))
          have HK2 := Lib.hid (show (at' % 256).tmod 5 = (m : Int) by rw [rem_in (by omega)]; exact hm)
          obtain ⟨z, hz⟩ : ∃ z, at' % 8 = z := ⟨_, rfl⟩
          have HK3 := Lib.hid (show bits .and .i64 at' 7 = z from (i64_mask at' 3 7 (by decide) (by decide)).trans hz)
          have HK4 := Lib.hid (show IntKind.i64.wrap (5 + z) = 5 + z from IntWalk.i64_in _ (by omega))
          have HS1 := Lib.hid (show cmpB .eql (stepS (5 + z)) 1 = some true by rw [show stepS (5 + z) = 1 by unfold stepS; rw [if_neg (by omega), if_neg (by omega), if_neg (by omega)]]; rfl)
          clear hm hz
          go_wp2_with (first
    | ((with_reducible apply wpList_buildS hR); exact rfl; exact rfl; (exact bB0); clear hR; intro g9' w hR; simp only [List.set_cons_succ, List.set_cons_zero]; (have hS9 : Sl 5 1 [(g9', #[], 5)] (.slice (some ⟨g9', 0, none⟩) 0 0) 0 [] := (RwIs.all rfl (by decide)).sl))
    | ((with_reducible apply wpList_buildS hR); exact rfl; exact rfl; (exact bB2 _ _); clear hR; intro g8 w hR; simp only [List.set_cons_succ, List.set_cons_zero]; (have hS8 := src_row hR (.head _) rfl hy8 (by simp)))
    | ((with_reducible apply wpList_appG hR tBytesB); exact rfl; exact rfl; exact rfl; exact hS9; (exact Les.head (s := [_])); (exact (hV _ _ _ hR (fun r h => .tail _ (hsr r h))).rd); (simp only [maxLen]; omega); omega; clear hR hS9; intro s9 v9 w hR hS9; simp only [List.set_cons_succ, List.set_cons_zero])
    | ((with_reducible apply wpList_appG hR tBytesB); exact rfl; exact rfl; exact rfl; exact hS9; (exact .tail Les.head); (exact hS8.rd); (simp only [maxLen, List.length_cons, List.length_nil]; omega); (simp only [List.length_cons, List.length_nil]; omega); clear hR hS9 hS8; intro s9 v9 w hR hS9; simp only [List.set_cons_succ, List.set_cons_zero]; (have hS7 := hS9); (rw [List.nil_append, Nat.zero_add] at hS7))
    | ((with_reducible apply q_ls hR); exact rfl; (with_reducible apply t_numE); (apply EvC.now; exact rfl); (apply EvC.now; exact rfl); exact rfl; exact HY.out; (simp only [List.set_cons_succ, List.set_cons_zero]; exact rfl); clear hR; intro w hR)
    | ((with_reducible apply q_ls hR); exact rfl; (with_reducible apply t_conv Try.underlying3 Try.underlying5); (apply EvC.now; exact rfl); exact H8.out; (simp only [List.set_cons_succ, List.set_cons_zero]; exact rfl); clear hR; intro w hR)
    | ((with_reducible apply q_ls hR); exact rfl; ((with_reducible first | apply t_addr (fRec _ (by decide)) | apply t_addr (fGrp _ (by decide)) | apply t_one tByteR | apply t_one tSlR | apply t_one tIntR | apply t_one tIntsO | apply t_part tGrp) <;> (first | (apply EvC.now; exact rfl) | exact rfl | exact ext_grp _ _ | (focus (repeat (first | apply List.Mem.head | exact hm7 | exact hm9 | exact hm10 | apply List.Mem.tail | apply List.mem_append_right))))); (simp only [List.set_cons_succ, List.set_cons_zero]; exact rfl); clear hR; intro w hR))
          have hN := Sl.src (bs := bs ++ [y, 1]) (hS7.cast (by simp [cellsB])) hR (fun r h => List.mem_append_left _ h) (hbo.append hy8)
          clear hS7 hS9
          refine (segGroups_any hN (by simp; omega)).mono ?_
          rw [HMORE.out]
          rintro e w5 ⟨s5, v5, rfl, hO, hI5⟩
          replace hR := hR.right.tail.join hO
          have hI5n := hI5 _ _ _ hO fun _ h => h
          clear hO hN HMORE
          go_upto_region 17 with (first
    | ((with_reducible apply wpList_make hR zGrp); exact rfl; clear hR; intro g13 w hR; simp only [List.set_cons_succ, List.set_cons_zero])
    | ((with_reducible apply wpList_put hR tGrp); exact rfl; exact rfl; exact rfl; (focus (repeat (first | apply List.Mem.head | exact hm7 | exact hm9 | exact hm10 | apply List.Mem.tail | apply List.mem_append_right))); exact put_grp _ _ _ _; exact rfl; simp [encG]; exact one_grp _ hI5n; (focus (repeat (first | apply Upd.head | apply Upd.tail))); clear hR; intro w hR)
    | ((with_reducible apply wpList_buildS hR); exact rfl; exact rfl; (exact bSteps); clear hR; intro g15 w hR; simp only [List.set_cons_succ, List.set_cons_zero]))
          refine wp_region_rows hR [0, 1, 2, 3, 4, 5, 6, 7, 8, 9, 10, 11, 12, 13, 14, 15, 16, 17, 18, 19, 20, 21, 22, 23, 24, 25] 0 (by kernel_rfl) (by kernel_rfl) (by kernel_rfl) rfl ?_
          clear hR; intro hR
          repeat (refine wpT_step rfl ?_; first
    | ((with_reducible apply q_kn); exact rfl; (with_reducible apply t_call Try.call8); (first | (apply EvC.gv; exact rfl; (with_reducible first | exact Imp.refl _ | (apply Imp.left; exact Imp.refl _) | (apply Imp.right; exact Imp.refl _) | (apply Imp.left; apply Imp.left; exact Imp.refl _))) | (apply EvC.now; exact rfl) | exact rfl | (with_reducible exact EvAll.nil) | (focus (repeat (first | apply EvAll.cons | exact EvAll.nil | (apply EvC.gv; exact rfl; (with_reducible first | exact Imp.refl _ | (apply Imp.left; exact Imp.refl _) | (apply Imp.right; exact Imp.refl _) | (apply Imp.left; apply Imp.left; exact Imp.refl _))) | (apply EvC.now; exact rfl))); done) | exact ext_grp _ _ | (focus (repeat (first | apply List.Mem.head | exact hm7 | exact hm9 | exact hm10 | apply List.Mem.tail | apply List.mem_append_right)))); (intro hcc w hC; exact tame_below (awake21_any _) hC); (simp only [List.set_cons_succ, List.set_cons_zero]; exact rfl))
    | ((with_reducible apply q_kn); exact rfl; (with_reducible apply t_call Try.call16); (first | (apply EvC.gv; exact rfl; (with_reducible first | exact Imp.refl _ | (apply Imp.left; exact Imp.refl _) | (apply Imp.right; exact Imp.refl _) | (apply Imp.left; apply Imp.left; exact Imp.refl _))) | (apply EvC.now; exact rfl) | exact rfl | (with_reducible exact EvAll.nil) | (focus (repeat (first | apply EvAll.cons | exact EvAll.nil | (apply EvC.gv; exact rfl; (with_reducible first | exact Imp.refl _ | (apply Imp.left; exact Imp.refl _) | (apply Imp.right; exact Imp.refl _) | (apply Imp.left; apply Imp.left; exact Imp.refl _))) | (apply EvC.now; exact rfl))); done) | exact ext_grp _ _ | (focus (repeat (first | apply List.Mem.head | exact hm7 | exact hm9 | exact hm10 | apply List.Mem.tail | apply List.mem_append_right)))); (intro hcc w hC; exact tame_below (segStep_any _ _) hC); (simp only [List.set_cons_succ, List.set_cons_zero]; exact rfl))
    | ((with_reducible apply q_kn); exact rfl; (with_reducible apply t_cmp); (apply EvC.now; exact rfl); (apply EvC.now; exact rfl); (with_reducible first | exact HS1.out | exact cmp_selfS _); (simp only [List.set_cons_succ, List.set_cons_zero]; exact rfl))
    | ((with_reducible apply q_kn); exact rfl; (with_reducible apply t_numE); (apply EvC.now; exact rfl); (apply EvC.now; exact rfl); exact rfl; (with_reducible first | exact HK1.out | exact HK3.out | exact HK4.out); (simp only [List.set_cons_succ, List.set_cons_zero]; exact rfl))
    | ((with_reducible apply q_kn); exact rfl; (with_reducible apply t_rem); (apply EvC.now; exact rfl); (apply EvC.now; exact rfl); (decide); exact HK2.out; (simp only [List.set_cons_succ, List.set_cons_zero]; exact rfl))
    | ((with_reducible apply q_kn); exact rfl; (with_reducible apply t_sixG (k := m) Try.underlying40 iIntO); (apply EvC.now; exact rfl); (apply EvC.now; exact rfl); exact rfl; exact hm5; (simp only [List.set_cons_succ, List.set_cons_zero]; exact rfl))
    | ((with_reducible apply q_kn); exact rfl; (with_reducible apply t_one tIntO); (apply EvC.now; exact rfl); (exact .head _); (exact step_at m hm5); (simp only [List.set_cons_succ, List.set_cons_zero]; exact rfl))
    | ((with_reducible apply q_kn); exact rfl; (first | ((with_reducible first | apply t_move | apply t_assign | apply t_addr (fRec _ (by decide)) | apply t_addr (fGrp _ (by decide)) | apply t_one tByteR | apply t_one tSlR | apply t_one tIntR | apply t_one tIntsO | apply t_part tGrp) <;> (first | (apply EvC.gv; exact rfl; (with_reducible first | exact Imp.refl _ | (apply Imp.left; exact Imp.refl _) | (apply Imp.right; exact Imp.refl _) | (apply Imp.left; apply Imp.left; exact Imp.refl _))) | (apply EvC.now; exact rfl) | exact rfl | (with_reducible exact EvAll.nil) | (focus (repeat (first | apply EvAll.cons | exact EvAll.nil | (apply EvC.gv; exact rfl; (with_reducible first | exact Imp.refl _ | (apply Imp.left; exact Imp.refl _) | (apply Imp.right; exact Imp.refl _) | (apply Imp.left; apply Imp.left; exact Imp.refl _))) | (apply EvC.now; exact rfl))); done) | exact ext_grp _ _ | (focus (repeat (first | apply List.Mem.head | exact hm7 | exact hm9 | exact hm10 | apply List.Mem.tail | apply List.mem_append_right))))) | ((with_reducible apply t_pick); (apply EvC.now; exact rfl); (apply EvC.now; exact rfl))); (simp only [List.set_cons_succ, List.set_cons_zero]; exact rfl)))
          refine wpG_end hR (by kernel_rfl) ?_
          clear hR; intro w hR
          go_wp2_with fail
          go_ret
          exact ⟨rfl, hR.below⟩

set_option maxRecDepth 100000 in
theorem lifted (os : Os) (started : os.Started) (H : Type) (enc : TypeId × Value → H) :
    ReturnsInHanded {} Try.checked os 5 .any (Rows.segsGroupSpec.pre6 enc Try.prog Try.f5 Rows.segsGroupRow.domain false) (Rows.segsGroupSpec.post enc Try.prog Try.f5 false true false false) := by
  refine returnsInHanded_of_change (C := Try.checked) own started (by kernel_rfl) Try.func5
    (ChangeSpec.witness6 (enc := enc) (C := Try.checked) false ⟨#[], #[.int .i64 0, .slice none 0 0, .int .i64 0], []⟩ 8 (by kernel_rfl) (by kernel_rfl) (by kernel_rfl) (by kernel_rfl)) ?_
  intro W base args ds gs before hval0 hW hcnd _
  have hval : ∀ (j : Nat) t v, Try.f5.params[j]? = some t → args[j]? = some v → Value.okWide Try.prog W .any base t v := hval0
  have hW' := hW
  obtain ⟨p, q, hA0, hV, rfl, hfz, hnd⟩ := hW
  have hA : DataW.TrodAll enc Try.prog W 0 (fun _ => true) true Try.f5.params.toList args.toList ds p := hA0
  rw [Try.params5] at hA hval
  obtain ⟨v0, vs0, d0, ds0, p0, q0, hargs, rfl, rfl, h0, r0⟩ := trodAll_cons hA
  obtain ⟨v1, vs1, d1, ds1, p1, q1, rfl, rfl, rfl, h1, r1⟩ := trodAll_cons r0
  obtain ⟨v2, vs2, d2, ds2, p2, q2, rfl, rfl, rfl, h2, r2⟩ := trodAll_cons r1
  obtain ⟨rfl, rfl, rfl⟩ := trodAll_nil r2
  obtain rfl : args = #[v0, v1, v2] := by cases args; simp_all
  obtain ⟨rfl, rfl⟩ := trodVars_none hV
  obtain ⟨a0, rfl, rfl, rfl, w0⟩ := open_int Try.underlying3 (hval 0 3 v0 rfl rfl) h0
  have k1 := h1
  have lt1 : ∀ x ∈ p1, x.block < W.heap.size := by obtain ⟨m, hm⟩ := k1; exact DataW.trod_lt m _ _ _ hm
  have o1 := open_i64s (hval 1 40 v1 rfl rfl) h1
  obtain ⟨a2, rfl, rfl, rfl, w2⟩ := open_int Try.underlying3 (hval 2 3 v2 rfl rfl) h2
  clear hA0 hval0
  refine (walk a0 w0 v1 o1 a2 w2 W).mono fun e W' ⟨he, bel⟩ => ?_
  subst he
  exact ⟨_, rfl, _, _, _, [], _, [], hW', trodAll_mk1 (shut_bool Try.underlying4 _), (trodAll_cons_mk (shut_int Try.underlying3 w0) (trodAll_cons_mk (Below.trod laidOut (by kernel_rfl) (of_decide_eq_true (by kernel_rfl)) k1 bel lt1) (trodAll_cons_mk (shut_int Try.underlying3 w2) trodAll_mk0))), rfl, bel.frame _, fun h => by cases h⟩

theorem over : Rows.segsGroupRow.holds Try.pinned (OpenSpec.ofChange Rows.segsGroupSpec) :=
  OpenClaim.holds_of_wide 5 Try.f5 rfl rfl rfl rfl rfl rfl rfl ⟨rfl, rfl, rfl, rfl, rfl⟩ rfl rfl rfl rfl rfl (by kernel_rfl) Try.func5 (by kernel_rfl)
    (of_decide_eq_true (by kernel_rfl)) (by unfold Func.isWrapper; first | (rw [if_pos (by decide +kernel)]; kernel_rfl) | (rw [if_neg (by decide +kernel)]; exact ⟨rfl, rfl⟩))
    (fun os started H enc _ => lifted os started H enc)

theorem proved : Rows.SegsGroupSaid := over
#print axioms proved
end Go.Proofs.Ytmdiemebfmnmkaa.segsGroup
