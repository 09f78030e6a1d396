/- The law PubsMade (What may be made, near and far, there and back; too long, and of another kind, it is none (22, Words; 22.1).) returns true whatever the arguments, and each argument reads afterwards as before. There is no condition on the arguments. -/
import Derived.Test.YtmiakniilimghaaRows
import Derived.Test.YtmiakniilimghaaLaw22
import Derived.Test.YtmiakniilimghaaAppS
import Derived.Test.YtmiakniilimghaaAppG
import Derived.WalkKit
import Derived.ProofKit
import Derived.OpenShut
import Derived.ShutString
import Derived.ChangeOld
import Derived.Below
namespace Go.Proofs.Ytmiakniilimghaa.pubsMade
open Go.ChangeShapes Go.WideShapes Go.ChangeAt Go.RowKit
open Go.ChangeMaps (open_string shut_string)
set_option linter.unusedVariables false
set_option linter.unusedSimpArgs false

theorem own : ownKnob Try.prog.godebug = none := by kernel_rfl
theorem laidOut : laidOutB Try.prog = true := by kernel_rfl










theorem min40 (n : Nat) : (if (40 : Int) < (n : Int) then 40 else (n : Int)) = ((min n 40 : Nat) : Int) := by split <;> omega
def elX (z : ExtZ) : ExtZ := ⟨z.nm.take 40, 97 + z.c % 2, z.l % 2097152 % 1048577⟩
def takeX (l : List ExtZ) (k : Nat) : List ExtZ := (l.take k).map elX
theorem takeX_more {l : List ExtZ} {k : Nat} {z : ExtZ} (h : l[k]? = some z) : takeX l (k + 1) = takeX l k ++ [elX z] := by
  unfold takeX; rw [List.take_add_one, h]; simp
theorem takeX_len {l : List ExtZ} {k : Nat} (h : k ≤ l.length) : (takeX l k).length = k := by
  unfold takeX; rw [List.length_map, List.length_take]; omega
theorem elX_ok {z : ExtZ} (h : z.ok) : (elX z).ok := ⟨h.1.take 40, by unfold elX; dsimp only; omega, by unfold elX; dsimp only; omega⟩
theorem elX_short (z : ExtZ) : (elX z).nm.length ≤ 40 := by unfold elX; dsimp only; rw [List.length_take]; omega
theorem elX_may (z : ExtZ) : (elX z).may := ⟨by have := elX_short z; omega, by unfold elX; dsimp only; omega, by unfold elX; dsimp only; omega⟩
theorem takeX_ok {l : List ExtZ} {k : Nat} (h : ∀ z ∈ l, z.ok) : ∀ p ∈ takeX l k, p.ok := by
  intro p hp
  obtain ⟨q, hq, rfl⟩ := List.mem_map.1 hp
  exact elX_ok (h q (List.mem_of_mem_take hq))
theorem takeX_short {l : List ExtZ} {k : Nat} : ∀ p ∈ takeX l k, p.nm.length ≤ 40 := by
  intro p hp
  obtain ⟨q, hq, rfl⟩ := List.mem_map.1 hp
  exact elX_short q
theorem takeX_may {l : List ExtZ} {k : Nat} : ∀ p ∈ takeX l k, p.may := by
  intro p hp
  obtain ⟨q, hq, rfl⟩ := List.mem_map.1 hp
  exact elX_may q
def LoopIs (w0 : World) (l : List ExtZ) (x i : Value) (wr : World) : Prop :=
  ∃ (k : Nat) (sl : List RowT), i = .int .i64 k ∧ k ≤ 8 ∧ k ≤ l.length ∧ Own w0 wr (sl ++ []) ∧ Sl 44 3 sl x k ((takeX l k).flatMap cellsExt)
theorem bElX (t : List Int) (c l : Int) : Built Try.prog 44 [(0, .string (strOfNums t)), (1, .int .i64 c), (2, .int .u32 l)] #[.string (strOfNums t), .int .i64 c, .int .u32 l] := ⟨by kernel_rfl⟩
theorem tStr22 : StrTy Try.prog 26 9 5 := .of Try.underlying26 Try.underlying9 (by kernel_rfl)
theorem ok65' : bytesOk [65] := .cons (by decide) .nil
theorem l97 : (⟨#[0, 97]⟩ : ByteArray) = strOfNums [0, 97] := rfl
theorem l99 : (⟨#[0, 99, 1]⟩ : ByteArray) = strOfNums [0, 99, 1] := rfl
theorem l97b : (⟨#[0, 97, 5, 7]⟩ : ByteArray) = strOfNums [0, 97, 5, 7] := rfl
theorem okk : bytesOk (nam18 [65] ++ [0, 99, 1]) := (nam18_ok ok65').append (.cons (by decide) (.cons (by decide) (.cons (by decide) .nil)))
theorem okt : bytesOk (nam18 [65] ++ [0, 97, 5, 7]) := (nam18_ok ok65').append (.cons (by decide) (.cons (by decide) (.cons (by decide) (.cons (by decide) .nil))))
set_option maxHeartbeats 8000000 in
set_option maxRecDepth 100000 in
theorem walk {w0 : World} (v0 : Value) (hA : ExtsIn w0 v0) (mi : Int) (hmi : (Lit.int .u32 mi).wf = true) (wi : World) :
    Calls Try.prog 5 #[v0, .int .u32 mi] w0 fun e w' => e = .returned (.bool true) ∧ Below w0.heap.size w0 w' := by
  clear wi
  obtain ⟨l, hlo, hl⟩ := hA
  obtain ⟨m0, m1⟩ := bounds_u32 hmi
  obtain ⟨more, rfl⟩ := Int.eq_ofNat_of_zero_le m0
  have hR := Own.start w0
  go_enter Try.func5, Try.ntmps5
  go_wp2_with (first
    | ((with_reducible apply wpList_buildS hR); exact rfl; exact rfl; (exact bExts0); clear hR; intro gx w hR; simp only [List.set_cons_succ, List.set_cons_zero]))
  go_loopw [5, 6] (fun x i wr => LoopIs w0 l x i wr) (fun _ i _ => 8 - (intOf i).toNat)
  case atStart => exact ⟨0, _, rfl, by decide, Nat.zero_le _, hR, (RwIs.all rfl (by decide)).sl⟩
  case round =>
    clear hR
    obtain ⟨k, sl, rfl, hk8, hkl, hR, hS⟩ := hrel
    go_upto_region 3 with fail
    refine wp_region_tame hR [0, 1, 2, 3, 4, 5, 6, 7] rfl ?_
    repeat (refine wpT_step rfl ?_; first
    | ((with_reducible apply q_pl); (with_reducible apply t_lenRd Try.underlying39); (apply EvC.now; exact rfl); exact hl; (simp only [List.set_cons_succ, List.set_cons_zero]; exact rfl))
    | ((first | (with_reducible apply q_pl) | ((with_reducible apply q_gd); (first | (apply GdBy.gt; exact rfl; exact rfl) | (apply GdBy.gf; exact rfl; exact rfl) | (apply GdBy.t; exact rfl; exact rfl) | (apply GdBy.f; exact rfl; exact rfl)))); (first | ((with_reducible first | apply t_move | apply t_assign | apply t_and | apply t_or | apply t_cmp | apply t_not | apply t_addr (fRec _ (by decide)) | apply t_addr (fPub _ (by decide)) | apply t_addr (fExt _ (by decide)) | apply t_one tByteR | apply t_one tSlR | apply t_one tIntR | apply t_one tWordP | apply t_one tNumX | apply t_one tStrO | apply t_part tPub | apply t_part tExt) <;> (first | (apply EvC.gv; exact rfl; (with_reducible first | exact Imp.refl _ | (apply Imp.left; exact Imp.refl _) | (apply Imp.right; exact Imp.refl _) | (apply Imp.left; apply Imp.left; exact Imp.refl _))) | (apply EvC.now; exact rfl) | exact rfl | (with_reducible exact EvAll.nil) | (focus (repeat (first | apply EvAll.cons | exact EvAll.nil | (apply EvC.gv; exact rfl; (with_reducible first | exact Imp.refl _ | (apply Imp.left; exact Imp.refl _) | (apply Imp.right; exact Imp.refl _) | (apply Imp.left; apply Imp.left; exact Imp.refl _))) | (apply EvC.now; exact rfl))); done) | (first | exact ext_pub _ | exact ext_ext _) | (focus (repeat (first | apply List.Mem.head | apply List.Mem.tail | apply List.mem_append_right)))))); (simp only [List.set_cons_succ, List.set_cons_zero]; exact rfl))
    | ((with_reducible apply q_gd); (first | (apply GdBy.gt; exact rfl; exact rfl) | (apply GdBy.gf; exact rfl; exact rfl) | (apply GdBy.t; exact rfl; exact rfl) | (apply GdBy.f; exact rfl; exact rfl)); ((with_reducible apply t_num) <;> (first | (apply EvC.gv; exact rfl; (with_reducible first | exact Imp.refl _ | (apply Imp.left; exact Imp.refl _) | (apply Imp.right; exact Imp.refl _) | (apply Imp.left; apply Imp.left; exact Imp.refl _))) | (apply EvC.now; exact rfl) | exact rfl | (with_reducible exact EvAll.nil) | (focus (repeat (first | apply EvAll.cons | exact EvAll.nil | (apply EvC.gv; exact rfl; (with_reducible first | exact Imp.refl _ | (apply Imp.left; exact Imp.refl _) | (apply Imp.right; exact Imp.refl _) | (apply Imp.left; apply Imp.left; exact Imp.refl _))) | (apply EvC.now; exact rfl))); done) | (first | exact ext_pub _ | exact ext_ext _) | (focus (repeat (first | apply List.Mem.head | apply List.Mem.tail | apply List.mem_append_right))))); (simp only [List.set_cons_succ, List.set_cons_zero]; exact rfl))
    | ((with_reducible apply wpT1_gpure); (first | (apply GdBy.gt; exact rfl; exact rfl) | (apply GdBy.gf; exact rfl; exact rfl) | (apply GdBy.t; exact rfl; exact rfl) | (apply GdBy.f; exact rfl; exact rfl)); intro K hK; go_simp; refine hK _ ?_; clear hK K; simp only [List.set_cons_succ, List.set_cons_zero])
    | ((with_reducible apply wpT1_pure); exact rfl; intro K hK; go_simp; refine hK _ ?_; clear hK K; simp only [List.set_cons_succ, List.set_cons_zero]))
    refine wpT_nil ?_
    clear hR; intro w hR
    go_upto_if 27 with fail
    refine wp_cond_at (nm := decide ((k : Int) < (l.length : Int)) && decide ((k : Int) < 8)) rfl rfl (fun h => ?_) (fun h => ?_)
    · simp only [Bool.and_eq_true, decide_eq_true_eq] at h
      have hlt : k < l.length := by omega
      have h8 : k < 8 := by omega
      clear h
      obtain ⟨z, hz⟩ : ∃ z, l[k]? = some z := ⟨_, List.getElem?_eq_getElem hlt⟩
      have hzo := hlo z (List.mem_of_getElem? hz)
      obtain ⟨a, cap, rfl, hc⟩ := hl.el cellsExt_len hz
      have HC0 := Lib.hid (show w0.cell? ((a.add ((k : Int).toNat * 3)).add 0) = some (.string (strOfNums z.nm)) from hc 0 _ rfl)
      have HC1 := Lib.hid (show w0.cell? ((a.add ((k : Int).toNat * 3)).add 1) = some (.int .i64 z.c) from hc 1 _ rfl)
      have HC2 := Lib.hid (show w0.cell? ((a.add ((k : Int).toNat * 3)).add 2) = some (.int .u32 z.l) from hc 2 _ rfl)
      have HTM := Lib.hid (takeX_more hz)
      have HN1 := Lib.hid (show bits .and .i64 z.c 1 = z.c % 2 from i64_mask z.c 1 1 (by decide) (by decide))
      have HN2 := Lib.hid (show IntKind.i64.wrap (97 + z.c % 2) = 97 + z.c % 2 from IntWalk.i64_in _ (by omega))
      have HN3 := Lib.hid (show bits .and .u32 (z.l : Int) 2097151 = ((z.l % 2097152 : Nat) : Int) from u32_mask z.l 21 2097151 (by decide) (by decide))
      have HN4 := Lib.hid (show (((z.l % 2097152 : Nat) : Int)).tmod 1048577 = ((z.l % 2097152 % 1048577 : Nat) : Int) by rw [rem_in (by omega)]; omega)
      obtain ⟨m, hm⟩ : ∃ m, min z.nm.length 40 = m := ⟨_, rfl⟩
      have hml : m ≤ z.nm.length := by omega
      have HMM := Lib.hid (min40 z.nm.length)
      rw [hm] at HMM
      have HTK := Lib.hid (show z.nm.take m = z.nm.take 40 by rw [← hm]; exact take_min z.nm 40)
      clear hm hc hz
      go_upto_region 5 with fail
      refine wp_region_some hR _ (List.Sublist.refl _) [0, 1, 2, 3, 4, 5, 6, 7, 8, 9, 10, 11, 12, 13, 14, 15, 16, 17, 18, 19, 20, 21, 22, 23, 24, 25, 26, 27] 2 (by kernel_rfl) (by kernel_rfl) (by kernel_rfl) rfl ?_
      clear hR; intro hR
      repeat (refine wpT_step rfl ?_; first
    | ((with_reducible apply q_pl); (with_reducible apply t_six Try.underlying39 iExt); (apply EvC.now; exact rfl); (apply EvC.now; exact rfl); (constructor <;> omega); (simp only [List.set_cons_succ, List.set_cons_zero]; exact rfl))
    | ((with_reducible apply q_pl); (with_reducible apply t_fieldA (fExtA _ (by decide))); (apply EvC.now; exact rfl); (simp only [List.set_cons_succ, List.set_cons_zero]; exact rfl))
    | ((with_reducible apply q_pl); (with_reducible first | apply t_oldOne tNumX | apply t_oldOne tStrO | apply t_oldOne tIntR); (apply EvC.now; exact rfl); (with_reducible first | exact HC0.out | exact HC1.out | exact HC2.out); exact rfl; (simp only [List.set_cons_succ, List.set_cons_zero]; exact rfl))
    | ((with_reducible apply q_pl); (with_reducible apply t_lenN Try.underlying9); (apply EvC.now; exact rfl); (simp only [List.set_cons_succ, List.set_cons_zero]; exact rfl))
    | ((with_reducible apply q_pl); (with_reducible apply t_minK); (apply EvC.now; exact rfl); (apply EvC.now; exact rfl); exact HMM.out; (simp only [List.set_cons_succ, List.set_cons_zero]; exact rfl))
    | ((with_reducible apply q_pl); (with_reducible apply t_takeN Try.underlying9); (apply EvC.now; exact rfl); (apply EvC.now; exact rfl); exact rfl; exact hml; (simp only [List.set_cons_succ, List.set_cons_zero]; exact rfl))
    | ((with_reducible apply q_pl); (with_reducible apply t_built); exact rfl; exact bElX _ _ _; (simp only [List.set_cons_succ, List.set_cons_zero]; exact rfl))
    | ((first | (with_reducible apply q_pl) | ((with_reducible apply q_gd); (first | (apply GdBy.gt; exact rfl; exact rfl) | (apply GdBy.gf; exact rfl; exact rfl) | (apply GdBy.t; exact rfl; exact rfl) | (apply GdBy.f; exact rfl; exact rfl)))); (with_reducible apply t_numE); (first | (apply EvC.gv; exact rfl; (with_reducible first | exact Imp.refl _ | (apply Imp.left; exact Imp.refl _) | (apply Imp.right; exact Imp.refl _) | (apply Imp.left; apply Imp.left; exact Imp.refl _))) | (apply EvC.now; exact rfl) | exact rfl | (with_reducible exact EvAll.nil) | (focus (repeat (first | apply EvAll.cons | exact EvAll.nil | (apply EvC.gv; exact rfl; (with_reducible first | exact Imp.refl _ | (apply Imp.left; exact Imp.refl _) | (apply Imp.right; exact Imp.refl _) | (apply Imp.left; apply Imp.left; exact Imp.refl _))) | (apply EvC.now; exact rfl))); done) | (first | exact ext_pub _ | exact ext_ext _) | (focus (repeat (first | apply List.Mem.head | apply List.Mem.tail | apply List.mem_append_right)))); (first | (apply EvC.gv; exact rfl; (with_reducible first | exact Imp.refl _ | (apply Imp.left; exact Imp.refl _) | (apply Imp.right; exact Imp.refl _) | (apply Imp.left; apply Imp.left; exact Imp.refl _))) | (apply EvC.now; exact rfl) | exact rfl | (with_reducible exact EvAll.nil) | (focus (repeat (first | apply EvAll.cons | exact EvAll.nil | (apply EvC.gv; exact rfl; (with_reducible first | exact Imp.refl _ | (apply Imp.left; exact Imp.refl _) | (apply Imp.right; exact Imp.refl _) | (apply Imp.left; apply Imp.left; exact Imp.refl _))) | (apply EvC.now; exact rfl))); done) | (first | exact ext_pub _ | exact ext_ext _) | (focus (repeat (first | apply List.Mem.head | apply List.Mem.tail | apply List.mem_append_right)))); exact rfl; ((with_reducible first | exact HN1.out | exact HN2.out | exact HN3.out)); (simp only [List.set_cons_succ, List.set_cons_zero]; exact rfl))
    | ((with_reducible apply q_pl); (with_reducible apply t_rem); (apply EvC.now; exact rfl); (apply EvC.now; exact rfl); (decide); exact HN4.out; (simp only [List.set_cons_succ, List.set_cons_zero]; exact rfl))
    | ((with_reducible apply q_pl); (with_reducible apply t_move); (apply EvC.now; exact rfl); (simp only [List.set_cons_succ, List.set_cons_zero]; exact rfl)))
      refine wpT_nil ?_
      refine wpG_one hR (i := 28) (by kernel_rfl) ?_
      clear hR; intro w hR
      refine opMake hR zExt rfl ?_
      clear hR; intro g7 w hR
      refine ⟨hR.drop (by (focus (repeat (first | exact List.Sublist.slnil | exact List.nil_sublist _ | exact List.Sublist.refl _ | exact List.sublist_append_right _ _ | apply List.Sublist.cons_cons | apply List.Sublist.cons)))), ?_⟩
      simp only [List.set_cons_succ, List.set_cons_zero]
      refine wpG_put hR tExt (i := 29) (by kernel_rfl) rfl rfl rfl (by (focus (repeat (first | apply List.Mem.head | apply List.Mem.tail | apply List.mem_append_right)))) (put_ext zeroX ⟨z.nm.take m, 97 + z.c % 2, z.l % 2097152 % 1048577⟩) rfl (by simp [encExt]) (one_ext ⟨z.nm.take m, 97 + z.c % 2, z.l % 2097152 % 1048577⟩) (by (focus (repeat (first | apply Upd.head | apply Upd.tail)))) (by (focus (repeat (first | exact List.Sublist.slnil | exact List.nil_sublist _ | exact List.Sublist.refl _ | exact List.sublist_append_right _ _ | apply List.Sublist.cons_cons | apply List.Sublist.cons)))) ?_
      clear hR; intro w hR
      refine wpG_end hR (by kernel_rfl) ?_
      clear hR; intro w hR
      rw [HTK.out] at hR
      have HEL := Lib.hid (show (⟨z.nm.take 40, 97 + z.c % 2, z.l % 2097152 % 1048577⟩ : ExtZ) = elX z from rfl)
      rw [HEL.out] at hR
      clear HTK HMM HC0 HC1 HC2 HN1 HN2 HN3 HN4 HEL
      generalize elX z = p at *
      go_wp2_with (first
    | ((with_reducible apply wpList_buildS hR); exact rfl; exact rfl; (exact bExts1 _); clear hR; intro gb w hR; simp only [List.set_cons_succ, List.set_cons_zero])
    | ((with_reducible apply wpList_appG hR tExtsB); exact rfl; exact rfl; exact rfl; exact hS; (exact Les.tail (Les.tail Les.head)); (exact rd_one (z := p) cellsExt_len cellsExt_one hR (.head _)); (simp only [maxLen]; omega); omega; clear hR hS; intro s2 v2 w hR hS; simp only [List.set_cons_succ, List.set_cons_zero])
    | ((with_reducible apply q_ls hR); exact rfl; ((with_reducible first | apply t_addr (fRec _ (by decide)) | apply t_addr (fPub _ (by decide)) | apply t_addr (fExt _ (by decide)) | apply t_one tByteR | apply t_one tSlR | apply t_one tIntR | apply t_one tWordP | apply t_one tNumX | apply t_one tStrO | apply t_part tPub | apply t_part tExt) <;> (first | (apply EvC.gv; exact rfl; (with_reducible first | exact Imp.refl _ | (apply Imp.left; exact Imp.refl _) | (apply Imp.right; exact Imp.refl _) | (apply Imp.left; apply Imp.left; exact Imp.refl _))) | (apply EvC.now; exact rfl) | exact rfl | (with_reducible exact EvAll.nil) | (focus (repeat (first | apply EvAll.cons | exact EvAll.nil | (apply EvC.gv; exact rfl; (with_reducible first | exact Imp.refl _ | (apply Imp.left; exact Imp.refl _) | (apply Imp.right; exact Imp.refl _) | (apply Imp.left; apply Imp.left; exact Imp.refl _))) | (apply EvC.now; exact rfl))); done) | (first | exact ext_pub _ | exact ext_ext _) | (focus (repeat (first | apply List.Mem.head | apply List.Mem.tail | apply List.mem_append_right))))); (simp only [List.set_cons_succ, List.set_cons_zero]; exact rfl); clear hR; intro w hR))
      go_round
      case rel =>
        refine ⟨k + 1, s2, rfl, by omega, by omega, hR.drop ((List.Sublist.refl s2).append (.cons _ (.cons _ (List.Sublist.refl _)))), ?_⟩
        rw [HTM.out, List.flatMap_append]
        exact hS.cast (by simp)
      case measure => simp [intOf]; omega
    · clear h hl
      obtain ⟨X, hXe⟩ : ∃ X, takeX l k = X := ⟨_, rfl⟩
      have hXl : X.length ≤ 8 := by rw [← hXe, takeX_len hkl]; exact hk8
      have hXk : X.length = k := by rw [← hXe, takeX_len hkl]
      have hXo : ∀ p ∈ X, p.ok := by rw [← hXe]; exact takeX_ok hlo
      have hXs : ∀ p ∈ X, p.nm.length ≤ 40 := by rw [← hXe]; exact takeX_short
      have hXm : ∀ p ∈ X, p.may := by rw [← hXe]; exact takeX_may
      rw [hXe] at hS
      clear hXe hk8 hkl hlo
      subst hXk
      have hxr : RowsAt 3 cellsExt _ _ X := hS.rowsAt cellsExt_one hR (fun r hr => List.mem_append_left _ hr)
      have hbo := mads_ok fun p hp => (hXo p hp).1
      have hbl := mads_len hXs
      have hs1000 : ∀ p ∈ X, p.nm.length ≤ 1000 := fun p hp => by have := hXs p hp; omega
      have HREF := Lib.hid (fun w v (h : RowsAt 3 cellsExt w v X) => r21mads_any v X h hXo (by omega) hXs)
      have hpub := fun w v (h : RowsAt 3 cellsExt w v X) => pubCommunal_any v X h hXo (by omega) hs1000
      have HBACK := Lib.hid (mad_back hXm)
      obtain ⟨m, hm⟩ : ∃ m, more % 65536 = m := ⟨_, rfl⟩
      have hmb : m ≤ 65535 := by omega
      have HM1 := Lib.hid (show bits .and .u32 (more : Int) 65535 = (m : Int) by rw [← hm]; exact u32_mask more 16 65535 (by decide) (by decide))
      have HM2 := Lib.hid (show IntKind.u32.wrap (1025 + (m : Int)) = ((1025 + m : Nat) : Int) by rw [IntKind.wrap_u32]; omega)
      obtain ⟨n, hn⟩ : ∃ n, 1025 + m = n := ⟨_, rfl⟩
      rw [hn] at HM2
      have hnb : 1025 ≤ n ∧ n ≤ 66560 := by omega
      have HGREAT := Lib.hid (mad_great hXm hnb)
      have HGB := Lib.hid (show ((nam18 [65] ++ [0, 97]) ++ longN 1024) ++ longN n = greatB n by unfold greatB; simp)
      have hgl : (greatB n).length ≤ 20 := by
        unfold greatB
        have h1 := longN_len 1024; have h2 := longN_len n
        simp only [List.length_append, List.length_cons, List.length_nil, nam18_len]; omega
      have hgo : bytesOk (greatB n) := by
        unfold greatB
        exact (nam18_ok ok65').append (.cons (by decide) (.cons (by decide) ((longN_ok _).append ((longN_ok _).append .nil))))
      have hll := longN_len n
      obtain ⟨bs, hbs⟩ : ∃ bs, X.flatMap madB = bs := ⟨_, rfl⟩
      rw [hbs] at hbo hbl HREF hpub HBACK HGREAT
      have hbl2 : bs.length ≤ 392 := by omega
      clear hS hbs hbl hm hn hXm
      have hZ2 := (Since.start w0).own hR
      have hR2 := hR.fresh
      clear hR
      try clear hZ
      have hZ := hZ2
      have hR := hR2
      clear hZ2 hR2
      go_wp2_with fail
      refine (hpub _ _ hxr).mono ?_
      rintro e w1 h1
      obtain ⟨v1, rfl, hb, hV⟩ := h1.now
      replace hxr := hxr.keep hb
      clear h1 hpub
      replace hR := hR.grow hb
      have hZ2 := (hZ).own hR
      clear hR hb
      try clear hZ
      have hZ := hZ2
      clear hZ2
      have hR := Own.start w1
      go_upto_region 8 with (first
    | ((with_reducible apply wpList_make hR zRec); exact rfl; clear hR; intro g w hR; simp only [List.set_cons_succ, List.set_cons_zero])
    | ((with_reducible apply wpList_put hR tRec); exact rfl; exact rfl; exact rfl; (focus (repeat (first | apply List.Mem.head | apply List.Mem.tail | apply List.mem_append_right))); exact put_rec _ _ _ _; exact rfl; simp; exact one_rec _ hV; (focus (repeat (first | apply Upd.head | apply Upd.tail))); clear hR; intro w hR))
      go_wp2_with (first
    | ((with_reducible apply q_ls hR); exact rfl; ((with_reducible first | apply t_addr (fRec _ (by decide)) | apply t_addr (fPub _ (by decide)) | apply t_addr (fExt _ (by decide)) | apply t_one tByteR | apply t_one tSlR | apply t_one tIntR | apply t_one tWordP | apply t_one tNumX | apply t_one tStrO | apply t_part tPub | apply t_part tExt) <;> (first | (apply EvC.gv; exact rfl; (with_reducible first | exact Imp.refl _ | (apply Imp.left; exact Imp.refl _) | (apply Imp.right; exact Imp.refl _) | (apply Imp.left; apply Imp.left; exact Imp.refl _))) | (apply EvC.now; exact rfl) | exact rfl | (with_reducible exact EvAll.nil) | (focus (repeat (first | apply EvAll.cons | exact EvAll.nil | (apply EvC.gv; exact rfl; (with_reducible first | exact Imp.refl _ | (apply Imp.left; exact Imp.refl _) | (apply Imp.right; exact Imp.refl _) | (apply Imp.left; apply Imp.left; exact Imp.refl _))) | (apply EvC.now; exact rfl))); done) | (first | exact ext_pub _ | exact ext_ext _) | (focus (repeat (first | apply List.Mem.head | apply List.Mem.tail | apply List.mem_append_right))))); (simp only [List.set_cons_succ, List.set_cons_zero]; exact rfl); clear hR; intro w hR))
      refine (pubMade_any (hV.own hR) (by omega)).mono ?_
      rw [HBACK.out]
      rintro e w2 h2
      obtain ⟨v2, rfl, hb, hG⟩ := h2.now
      replace hV := (hV.own hR).keep hb
      replace hxr := (hxr.own hR).keep hb
      have hAt := (hR.at (.head _)).keep hb
      clear h2 HBACK
      replace hR := hR.grow hb
      have hZ2 := (hZ).own hR
      clear hR hb
      try clear hZ
      have hZ := hZ2
      clear hZ2
      have hR := Own.start w2
      have hT := hAt.get
      go_upto_region 9 with fail
      refine wp_region_rows hR [0, 1, 2, 3, 4, 5, 6, 7, 8, 9, 10, 11, 12, 13, 14, 15, 16, 17, 18, 19, 20, 21] 0 (by kernel_rfl) (by kernel_rfl) (by kernel_rfl) rfl ?_
      clear hR; intro hR
      repeat (refine wpT_step rfl ?_; first
    | ((with_reducible apply q_kn); exact rfl; (with_reducible apply t_strW tTextN); (apply EvC.now; exact rfl); (exact fun w hC => hV.own hC); (simp only [List.set_cons_succ, List.set_cons_zero]; exact rfl))
    | ((with_reducible apply q_kn); exact rfl; (with_reducible apply t_call Try.call15); (first | (apply EvC.gv; exact rfl; (with_reducible first | exact Imp.refl _ | (apply Imp.left; exact Imp.refl _) | (apply Imp.right; exact Imp.refl _) | (apply Imp.left; apply Imp.left; exact Imp.refl _))) | (apply EvC.now; exact rfl) | exact rfl | (with_reducible exact EvAll.nil) | (focus (repeat (first | apply EvAll.cons | exact EvAll.nil | (apply EvC.gv; exact rfl; (with_reducible first | exact Imp.refl _ | (apply Imp.left; exact Imp.refl _) | (apply Imp.right; exact Imp.refl _) | (apply Imp.left; apply Imp.left; exact Imp.refl _))) | (apply EvC.now; exact rfl))); done) | (first | exact ext_pub _ | exact ext_ext _) | (focus (repeat (first | apply List.Mem.head | apply List.Mem.tail | apply List.mem_append_right)))); (intro hcc w hC; exact tame_below (HREF.out _ _ (hxr.own hC)) hC); (simp only [List.set_cons_succ, List.set_cons_zero]; exact rfl))
    | ((with_reducible apply q_kn); exact rfl; (with_reducible apply t_strsameN); (apply EvC.now; exact rfl); (apply EvC.now; exact rfl); (simp only [List.set_cons_succ, List.set_cons_zero]; exact rfl))
    | ((with_reducible apply q_kn); exact rfl; (with_reducible apply t_lenRd Try.underlying39); (apply EvC.now; exact rfl); (first | exact hG | exact hxr); (simp only [List.set_cons_succ, List.set_cons_zero]; exact rfl))
    | ((with_reducible apply q_kn); exact rfl; (with_reducible apply t_cmp); (apply EvC.now; exact rfl); (apply EvC.now; exact rfl); exact cmp_nselfS _; (simp only [List.set_cons_succ, List.set_cons_zero]; exact rfl))
    | ((with_reducible apply q_kn); exact rfl; (with_reducible first | apply t_old tByteR hT | apply t_old tSlR hT); (apply EvC.now; exact rfl); exact rfl; (simp only [List.set_cons_succ, List.set_cons_zero]; exact rfl))
    | ((with_reducible apply q_kn); exact rfl; (first | ((with_reducible first | apply t_move | apply t_assign | apply t_addr (fRec _ (by decide)) | apply t_addr (fPub _ (by decide)) | apply t_addr (fExt _ (by decide)) | apply t_one tByteR | apply t_one tSlR | apply t_one tIntR | apply t_one tWordP | apply t_one tNumX | apply t_one tStrO | apply t_part tPub | apply t_part tExt) <;> (first | (apply EvC.gv; exact rfl; (with_reducible first | exact Imp.refl _ | (apply Imp.left; exact Imp.refl _) | (apply Imp.right; exact Imp.refl _) | (apply Imp.left; apply Imp.left; exact Imp.refl _))) | (apply EvC.now; exact rfl) | exact rfl | (with_reducible exact EvAll.nil) | (focus (repeat (first | apply EvAll.cons | exact EvAll.nil | (apply EvC.gv; exact rfl; (with_reducible first | exact Imp.refl _ | (apply Imp.left; exact Imp.refl _) | (apply Imp.right; exact Imp.refl _) | (apply Imp.left; apply Imp.left; exact Imp.refl _))) | (apply EvC.now; exact rfl))); done) | (first | exact ext_pub _ | exact ext_ext _) | (focus (repeat (first | apply List.Mem.head | apply List.Mem.tail | apply List.mem_append_right))))) | ((with_reducible apply t_pick); (apply EvC.now; exact rfl); (apply EvC.now; exact rfl))); (simp only [List.set_cons_succ, List.set_cons_zero]; exact rfl)))
      refine wpG_end hR (by kernel_rfl) ?_
      clear hR; intro w hR
      go_upto_if 91 with fail
      refine wp_cond_at (nm := false) rfl rfl (fun h => absurd h (by decide)) (fun _ => ?_)
      go_wp2_with fail
      go_loopw [11] (fun i wr => ∃ j : Nat, i = .int .i64 j ∧ j ≤ X.length ∧ Own w2 wr []) (fun i _ => X.length - (intOf i).toNat)
      case atStart => exact ⟨0, rfl, Nat.zero_le _, hR⟩
      case round =>
        clear hR
        obtain ⟨j, rfl, hj, hR⟩ := hrel
        go_upto_region 12 with fail
        refine wp_region_tame hR [0, 1, 2, 3] rfl ?_
        repeat (refine wpT_step rfl ?_; first
    | ((with_reducible apply q_pl); (with_reducible apply t_lenRd Try.underlying39); (apply EvC.now; exact rfl); exact hxr; (simp only [List.set_cons_succ, List.set_cons_zero]; exact rfl))
    | ((first | (with_reducible apply q_pl) | ((with_reducible apply q_gd); (first | (apply GdBy.gt; exact rfl; exact rfl) | (apply GdBy.gf; exact rfl; exact rfl) | (apply GdBy.t; exact rfl; exact rfl) | (apply GdBy.f; exact rfl; exact rfl)))); (first | ((with_reducible first | apply t_move | apply t_assign | apply t_and | apply t_or | apply t_cmp | apply t_not | apply t_addr (fRec _ (by decide)) | apply t_addr (fPub _ (by decide)) | apply t_addr (fExt _ (by decide)) | apply t_one tByteR | apply t_one tSlR | apply t_one tIntR | apply t_one tWordP | apply t_one tNumX | apply t_one tStrO | apply t_part tPub | apply t_part tExt) <;> (first | (apply EvC.gv; exact rfl; (with_reducible first | exact Imp.refl _ | (apply Imp.left; exact Imp.refl _) | (apply Imp.right; exact Imp.refl _) | (apply Imp.left; apply Imp.left; exact Imp.refl _))) | (apply EvC.now; exact rfl) | exact rfl | (with_reducible exact EvAll.nil) | (focus (repeat (first | apply EvAll.cons | exact EvAll.nil | (apply EvC.gv; exact rfl; (with_reducible first | exact Imp.refl _ | (apply Imp.left; exact Imp.refl _) | (apply Imp.right; exact Imp.refl _) | (apply Imp.left; apply Imp.left; exact Imp.refl _))) | (apply EvC.now; exact rfl))); done) | (first | exact ext_pub _ | exact ext_ext _) | (focus (repeat (first | apply List.Mem.head | apply List.Mem.tail | apply List.mem_append_right)))))); (simp only [List.set_cons_succ, List.set_cons_zero]; exact rfl))
    | ((with_reducible apply q_gd); (first | (apply GdBy.gt; exact rfl; exact rfl) | (apply GdBy.gf; exact rfl; exact rfl) | (apply GdBy.t; exact rfl; exact rfl) | (apply GdBy.f; exact rfl; exact rfl)); ((with_reducible apply t_num) <;> (first | (apply EvC.gv; exact rfl; (with_reducible first | exact Imp.refl _ | (apply Imp.left; exact Imp.refl _) | (apply Imp.right; exact Imp.refl _) | (apply Imp.left; apply Imp.left; exact Imp.refl _))) | (apply EvC.now; exact rfl) | exact rfl | (with_reducible exact EvAll.nil) | (focus (repeat (first | apply EvAll.cons | exact EvAll.nil | (apply EvC.gv; exact rfl; (with_reducible first | exact Imp.refl _ | (apply Imp.left; exact Imp.refl _) | (apply Imp.right; exact Imp.refl _) | (apply Imp.left; apply Imp.left; exact Imp.refl _))) | (apply EvC.now; exact rfl))); done) | (first | exact ext_pub _ | exact ext_ext _) | (focus (repeat (first | apply List.Mem.head | apply List.Mem.tail | apply List.mem_append_right))))); (simp only [List.set_cons_succ, List.set_cons_zero]; exact rfl))
    | ((with_reducible apply wpT1_gpure); (first | (apply GdBy.gt; exact rfl; exact rfl) | (apply GdBy.gf; exact rfl; exact rfl) | (apply GdBy.t; exact rfl; exact rfl) | (apply GdBy.f; exact rfl; exact rfl)); intro K hK; go_simp; refine hK _ ?_; clear hK K; simp only [List.set_cons_succ, List.set_cons_zero])
    | ((with_reducible apply wpT1_pure); exact rfl; intro K hK; go_simp; refine hK _ ?_; clear hK K; simp only [List.set_cons_succ, List.set_cons_zero]))
        refine wpT_nil ?_
        clear hR; intro w hR
        go_upto_if 95 with fail
        by_cases hjl : j < X.length
        · refine wp_cond_at (nm := true) rfl (by simp; omega) (fun _ => ?_) (fun h => absurd h (by decide))
          obtain ⟨p, hp⟩ : ∃ p, X[j]? = some p := ⟨_, List.getElem?_eq_getElem hjl⟩
          obtain ⟨ag, capg, hvg, hg0⟩ := RowsAt.el cellsExt_len hG hp
          obtain ⟨ax, capx, hvx, hx0⟩ := RowsAt.el cellsExt_len hxr hp
          rw [hvg, hvx]
          have HVG := Lib.hid hvg
          have HVX := Lib.hid hvx
          have HG0 := Lib.hid (show ∀ q u, (encExt p).toList[q]? = some u → w2.cell? ((ag.add ((j : Int).toNat * 3)).add q) = some u from hg0)
          have HX0 := Lib.hid (show ∀ q u, (encExt p).toList[q]? = some u → w2.cell? ((ax.add ((j : Int).toNat * 3)).add q) = some u from hx0)
          clear hg0 hx0 hp hvg hvx
          go_upto_region 14 with fail
          refine wp_region_rows hR [0, 1, 2, 3, 4, 5, 6, 7, 8] 0 (by kernel_rfl) (by kernel_rfl) (by kernel_rfl) rfl ?_
          clear hR; intro hR
          repeat (refine wpT_step rfl ?_; first
    | ((with_reducible apply q_pl); (with_reducible apply t_six Try.underlying39 iExt); (apply EvC.now; exact rfl); (apply EvC.now; exact rfl); (constructor <;> omega); (simp only [List.set_cons_succ, List.set_cons_zero]; exact rfl))
    | ((with_reducible apply q_pl); (with_reducible apply t_oldMany tExt); (apply EvC.now; exact rfl); (with_reducible first | exact HG0.out | exact HX0.out); exact rfl; (simp only [List.set_cons_succ, List.set_cons_zero]; exact rfl))
    | ((with_reducible apply q_pl); (with_reducible apply t_nel gExt); (apply EvC.now; exact rfl); (apply EvC.now; exact rfl); exact eqX_self _; (simp only [List.set_cons_succ, List.set_cons_zero]; exact rfl))
    | ((with_reducible apply q_pl); (with_reducible apply t_move); (apply EvC.now; exact rfl); (simp only [List.set_cons_succ, List.set_cons_zero]; exact rfl)))
          refine wpG_end hR (by kernel_rfl) ?_
          clear hR; intro w hR
          go_upto_if 106 with fail
          refine wp_cond_at (nm := false) rfl rfl (fun h => absurd h (by decide)) (fun _ => ?_)
          go_wp2_with fail
          go_round
          case rel => exact ⟨_, _, ⟨j + 1, rfl, by omega⟩, rfl, HVX.out.symm, HVG.out.symm, rfl, HVX.out.symm, HVG.out.symm, HVX.out.symm, HVG.out.symm, HVX.out.symm⟩
          case measure => simp [intOf]; omega
        · refine wp_cond_at (nm := false) rfl (by simp; omega) (fun h => absurd h (by decide)) (fun _ => ?_)
          clear hj hjl HREF
          have h1024 := longN_len 1024
          go_wp2_with (first
    | (go_at_call 10; refine (r18name_any [65] _ ok65' (by decide)).mono ?_; rintro e w' ⟨rfl, hb⟩; replace hR := hR.grow hb; clear hb)
    | ((with_reducible apply q_ls hR); exact rfl; (with_reducible apply t_catE (b := [0, 97])); (apply EvC.now; exact rfl); (exact lit_now l97); (decide); exact rfl; (simp only [List.set_cons_succ, List.set_cons_zero]; exact rfl); clear hR; intro w hR))
          refine (r18long_any 1024 _ (by decide)).mono ?_
          rintro e w' ⟨rfl, hb⟩
          replace hR := hR.grow hb
          clear hb
          go_wp2_with (first
    | ((with_reducible apply q_ls hR); exact rfl; (with_reducible apply t_numE); (apply EvC.now; exact rfl); (apply EvC.now; exact rfl); exact rfl; (with_reducible first | exact HM1.out | exact HM2.out); (simp only [List.set_cons_succ, List.set_cons_zero]; exact rfl); clear hR; intro w hR)
    | ((with_reducible apply q_ls hR); exact rfl; (with_reducible apply t_catE); (apply EvC.now; exact rfl); (apply EvC.now; exact rfl); (simp only [List.length_append, List.length_cons, List.length_nil, nam18_len]; omega); exact rfl; (simp only [List.set_cons_succ, List.set_cons_zero]; exact rfl); clear hR; intro w hR))
          refine (r18long_any n _ (by omega)).mono ?_
          rintro e w' ⟨rfl, hb⟩
          replace hR := hR.grow hb
          clear hb
          go_wp2_with (first
    | ((with_reducible apply q_ls hR); exact rfl; (with_reducible apply t_catE); (apply EvC.now; exact rfl); (apply EvC.now; exact rfl); (simp only [List.length_append, List.length_cons, List.length_nil, nam18_len]; omega); exact HGB.out; (simp only [List.set_cons_succ, List.set_cons_zero]; exact rfl); clear hR; intro w hR)
    | ((with_reducible apply wpList_buildS hR); exact rfl; exact rfl; (exact bB0); clear hR; intro g9 w hR; simp only [List.set_cons_succ, List.set_cons_zero]; (have hS9 : RwIs 1 (#[] : Array Value) 0 0 [] := RwIs.all rfl (by decide)))
    | ((with_reducible apply wpList_appRd hR tBytesB); exact rfl; exact rfl; exact rfl; exact hS9; (exact Les.one); (exact hV.rd.own hR); (simp only [maxLen]; omega); omega; clear hR hS9; intro g9 c9 cur9 w hR hS9; simp only [List.set_cons_succ, List.set_cons_zero])
    | ((with_reducible apply wpList_appStrN hR tStr22 hgo); exact rfl; exact rfl; exact rfl; exact hS9; (exact Del.head); omega; clear hR; intro g8 c8 cur8 w hR hS8; simp only [List.set_cons_succ, List.set_cons_zero])
    | ((with_reducible apply q_ls hR); exact rfl; (with_reducible apply t_old tSlR hT); (apply EvC.now; exact rfl); exact rfl; (simp only [List.set_cons_succ, List.set_cons_zero]; exact rfl); clear hR; intro w hR))
          rw [Nat.zero_add] at hS8
          have hN : SrcW _ (.slice (some ⟨g8, 0, none⟩) (bs.length + (greatB n).length) c8) (bs ++ greatB n) := SrcW.ofRw hR (.head _) (hS8.cast (by simp [cellsB])) (hbo.append hgo)
          refine (pubMade_any hN (by rw [List.length_append]; omega)).mono ?_
          rw [HGREAT.out]
          rintro e w3 h3
          obtain ⟨v3, rfl, hb, _⟩ := h3.now
          replace hR := hR.tail.grow hb
          clear hb h3 hN hS8 hS9 HGREAT HGB hgl hgo hll hnb HM1 HM2 hV hT hAt hG hxr hbl2 hbo
          go_wp2_with (first
    | (go_at_call 10; refine (r18name_any [65] _ ok65' (by decide)).mono ?_; rintro e w' ⟨rfl, hb⟩; replace hR := hR.grow hb; clear hb)
    | ((with_reducible apply q_ls hR); exact rfl; (with_reducible apply t_catE (b := [0, 99, 1])); (apply EvC.now; exact rfl); (exact lit_now l99); (decide); exact rfl; (simp only [List.set_cons_succ, List.set_cons_zero]; exact rfl); clear hR; intro w hR)
    | ((with_reducible apply wpList_bytesN hR Try.underlying9 Try.underlying26 Try.underlying5 okk); exact rfl; exact rfl; clear hR; intro vm w hR hM; simp only [List.set_cons_succ, List.set_cons_zero]))
          refine (pubMade_any hM.src (by decide)).mono ?_
          rw [mad_kind]
          rintro e w4 h4
          obtain ⟨v4, rfl, hb, _⟩ := h4.now
          replace hR := hR.grow hb
          clear hb h4 hM
          go_wp2_with (first
    | (go_at_call 10; refine (r18name_any [65] _ ok65' (by decide)).mono ?_; rintro e w' ⟨rfl, hb⟩; replace hR := hR.grow hb; clear hb)
    | ((with_reducible apply q_ls hR); exact rfl; (with_reducible apply t_catE (b := [0, 97, 5, 7])); (apply EvC.now; exact rfl); (exact lit_now l97b); (decide); exact rfl; (simp only [List.set_cons_succ, List.set_cons_zero]; exact rfl); clear hR; intro w hR)
    | ((with_reducible apply wpList_bytesN hR Try.underlying9 Try.underlying26 Try.underlying5 okt); exact rfl; exact rfl; clear hR; intro vm w hR hM; simp only [List.set_cons_succ, List.set_cons_zero]))
          refine (pubMade_any hM.src (by decide)).mono ?_
          rw [mad_two]
          rintro e w5 h5
          obtain ⟨v5, rfl, hb, hT5⟩ := h5.now
          clear h5 hM
          replace hR := hR.grow hb
          have hZ2 := (hZ).own hR
          clear hR hb
          try clear hZ
          have hZ := hZ2
          clear hZ2
          have hR := Own.start w5
          obtain ⟨a5, cap5, rfl, hc5⟩ := hT5.el cellsExt_len (i := 0) (z := ⟨[65], 97, 35⟩) rfl
          have H2 := Lib.hid (show w5.cell? ((a5.add ((0 : Int).toNat * 3)).add 2) = some (.int .u32 35) from hc5 2 _ rfl)
          clear hc5
          go_wp2_with (first
    | (go_at_call 8; refine (awake22_any _).mono ?_; rintro e w' ⟨rfl, hb⟩; replace hR := hR.grow hb; clear hb)
    | ((with_reducible apply q_ls hR); exact rfl; (with_reducible apply t_lenRd Try.underlying39); (apply EvC.now; exact rfl); exact hT5; (simp only [List.set_cons_succ, List.set_cons_zero]; exact rfl); clear hR; intro w hR)
    | ((with_reducible apply q_ls hR); exact rfl; (with_reducible apply t_six Try.underlying39 iExt); (apply EvC.now; exact rfl); (apply EvC.now; exact rfl); (constructor <;> simp); (simp only [List.set_cons_succ, List.set_cons_zero]; exact rfl); clear hR; intro w hR)
    | ((with_reducible apply q_ls hR); exact rfl; (with_reducible apply t_fieldA (fExtA _ (by decide))); (apply EvC.now; exact rfl); (simp only [List.set_cons_succ, List.set_cons_zero]; exact rfl); clear hR; intro w hR)
    | ((with_reducible apply q_ls hR); exact rfl; (with_reducible apply t_oldOne tNumX); (apply EvC.now; exact rfl); exact H2.out; exact rfl; (simp only [List.set_cons_succ, List.set_cons_zero]; exact rfl); clear hR; intro w hR))
          go_ret
          exact ⟨by simp, (hZ.own hR).below⟩

set_option maxRecDepth 100000 in
theorem lifted (os : Os) (started : os.Started) (H : Type) (enc : TypeId × Value → H) :
    ReturnsInHanded {} Try.checked os 5 .any (Rows.pubsMadeSpec.pre6 enc Try.prog Try.f5 Rows.pubsMadeRow.domain false) (Rows.pubsMadeSpec.post enc Try.prog Try.f5 false true false false) := by
  refine returnsInHanded_of_change (C := Try.checked) own started (by kernel_rfl) Try.func5
    (ChangeSpec.witness6 (enc := enc) (C := Try.checked) false ⟨#[], #[.slice none 0 0, .int .u32 0], []⟩ 8 (by kernel_rfl) (by kernel_rfl) (by kernel_rfl) (by kernel_rfl)) ?_
  intro W base args ds gs before hval0 hW hcnd _
  have hval : ∀ (j : Nat) t v, Try.f5.params[j]? = some t → args[j]? = some v → Value.okWide Try.prog W .any base t v := hval0
  have hW' := hW
  obtain ⟨p, q, hA0, hV, rfl, hfz, hnd⟩ := hW
  have hA : DataW.TrodAll enc Try.prog W 0 (fun _ => true) true Try.f5.params.toList args.toList ds p := hA0
  rw [Try.params5] at hA hval
  obtain ⟨v0, vs0, d0, ds0, p0, q0, hargs, rfl, rfl, h0, r0⟩ := trodAll_cons hA
  obtain ⟨v1, vs1, d1, ds1, p1, q1, rfl, rfl, rfl, h1, r1⟩ := trodAll_cons r0
  obtain ⟨rfl, rfl, rfl⟩ := trodAll_nil r1
  obtain rfl : args = #[v0, v1] := by cases args; simp_all
  obtain ⟨rfl, rfl⟩ := trodVars_none hV
  have k0 := h0
  have lt0 : ∀ x ∈ p0, x.block < W.heap.size := by obtain ⟨m, hm⟩ := k0; exact DataW.trod_lt m _ _ _ hm
  have o0 := open_exts (hval 0 39 v0 rfl rfl) h0
  obtain ⟨a1, rfl, rfl, rfl, w1⟩ := open_int Try.underlying42 (hval 1 42 v1 rfl rfl) h1
  clear hA0 hval0
  refine (walk v0 o0 a1 w1 W).mono fun e W' ⟨he, bel⟩ => ?_
  subst he
  exact ⟨_, rfl, _, _, _, [], _, [], hW', trodAll_mk1 (shut_bool Try.underlying4 _), (trodAll_cons_mk (Below.trod laidOut (by kernel_rfl) (of_decide_eq_true (by kernel_rfl)) k0 bel lt0) (trodAll_cons_mk (shut_int Try.underlying42 w1) trodAll_mk0)), rfl, bel.frame _, fun h => by cases h⟩

theorem over : Rows.pubsMadeRow.holds Try.pinned (OpenSpec.ofChange Rows.pubsMadeSpec) :=
  OpenClaim.holds_of_wide 5 Try.f5 rfl rfl rfl rfl rfl rfl rfl ⟨rfl, rfl, rfl, rfl, rfl⟩ rfl rfl rfl rfl rfl (by kernel_rfl) Try.func5 (by kernel_rfl)
    (of_decide_eq_true (by kernel_rfl)) (by unfold Func.isWrapper; first | (rw [if_pos (by decide +kernel)]; kernel_rfl) | (rw [if_neg (by decide +kernel)]; exact ⟨rfl, rfl⟩))
    (fun os started H enc _ => lifted os started H enc)

theorem proved : Rows.PubsMadeSaid := over
#print axioms proved
end Go.Proofs.Ytmiakniilimghaa.pubsMade
