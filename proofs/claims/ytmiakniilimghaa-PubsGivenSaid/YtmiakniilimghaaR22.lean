








/- The contracts of hansomref21, as far as what is given and taken goes. No statement of the seat is proved here. -/
import Derived.Test.YtmiakniilimghaaPubT
import Derived.Deep.DeepCutAuto
import Derived.Deep.CutBlock
namespace Go.Proofs.Ytmiakniilimghaa
open Go.ChangeShapes Go.WideShapes Go.ChangeAt Go.RowKit
set_option linter.unusedVariables false
set_option linter.unusedSimpArgs false

theorem lit0b : (⟨#[0]⟩ : ByteArray) = strOfNums [0] := rfl
theorem lit97b : (⟨#[97]⟩ : ByteArray) = strOfNums [97] := rfl
theorem lit98b : (⟨#[98]⟩ : ByteArray) = strOfNums [98] := rfl
theorem lit1b : (⟨#[1]⟩ : ByteArray) = strOfNums [1] := rfl
/-- What stands there ahead of one. -/
def preP (l : List PubZ) (k : Nat) : List Int := if k = 0 then (match l with | [] => [] | p :: _ => headB p) else pubsB (l.take k)
theorem preP_more {l : List PubZ} {k : Nat} {z : PubZ} (h : l[k]? = some z) : preP l k ++ pubB z = pubsB (l.take (k + 1)) := by
  unfold preP
  cases l with
  | nil => exact nomatch h
  | cons p l =>
    cases k with
    | zero =>
      obtain rfl := Option.some.inj h
      simp [pubsB]
    | succ k =>
      rw [if_neg (by simp), List.take_succ_cons, List.take_succ_cons]
      unfold pubsB
      have h2 : l[k]? = some z := by simpa using h
      rw [List.append_assoc]
      congr 1
      rw [List.take_add_one, h2]
      simp
theorem preP_len {l : List PubZ} (h : ∀ p ∈ l, p.nm.length ≤ 40) (k : Nat) (hk : k ≤ l.length) : (preP l k).length ≤ 6 + k * 44 := by
  unfold preP
  split
  · cases l with
    | nil => simp
    | cons p l => have := (headB_len p).2; dsimp only; omega
  · have h1 := pubsB_len (l := l.take k) fun p hp => h p (List.mem_of_mem_take hp)
    rw [List.length_take] at h1
    omega
set_option maxHeartbeats 4000000 in
set_option maxRecDepth 100000 in
theorem r21pubs_any {w0 : World} (v : Value) (l : List PubZ) (hP : RowsAt 5 cellsPub w0 v l) (hok : ∀ p ∈ l, p.ok) (hn : l.length ≤ 1000) (hnm : ∀ p ∈ l, p.nm.length ≤ 40) :
    Calls Try.prog 7 #[v] w0 fun e w' => e = .returned (.string (strOfNums (pubsB l))) ∧ Below w0.heap.size w0 w' := by
  have hR := Own.start w0
  go_enter Try.func7, Try.ntmps7
  go_wp2_with fail
  go_loopw [3, 4] (fun s i wr => ∃ k : Nat, i = .int .i64 k ∧ k ≤ l.length ∧ s = .string (strOfNums (pubsB (l.take k))) ∧ Own w0 wr []) (fun _ i _ => l.length - (intOf i).toNat)
  case atStart => exact ⟨0, rfl, Nat.zero_le _, rfl, hR⟩
  case round =>
    clear hR
    obtain ⟨k, rfl, hk, rfl, hR⟩ := hrel
    go_upto_region 3 with fail
    refine wp_region_tame hR [0, 1, 2, 3] rfl ?_
    repeat (refine wpT_step rfl ?_; first
    | ((with_reducible apply q_pl); (with_reducible apply t_lenRd Try.underlying22); (apply EvC.now; exact rfl); exact hP; (simp only [List.set_cons_succ, List.set_cons_zero]; exact rfl))
    | ((first | (with_reducible apply q_pl) | ((with_reducible apply q_gd); (first | (apply GdBy.gt; exact rfl; exact rfl) | (apply GdBy.gf; exact rfl; exact rfl) | (apply GdBy.t; exact rfl; exact rfl) | (apply GdBy.f; exact rfl; exact rfl)))); (first | ((with_reducible first | apply t_move | apply t_assign | apply t_and | apply t_or | apply t_cmp | apply t_not | apply t_addr (fRec _ (by decide)) | apply t_addr (fPub _ (by decide)) | apply t_addr (fExt _ (by decide)) | apply t_one tByteR | apply t_one tSlR | apply t_one tIntR | apply t_one tWordP | apply t_one tNumX | apply t_one tStrO | apply t_part tPub | apply t_part tExt) <;> (first | (apply EvC.gv; exact rfl; (with_reducible first | exact Imp.refl _ | (apply Imp.left; exact Imp.refl _) | (apply Imp.right; exact Imp.refl _) | (apply Imp.left; apply Imp.left; exact Imp.refl _))) | (apply EvC.now; exact rfl) | exact rfl | (with_reducible exact EvAll.nil) | (focus (repeat (first | apply EvAll.cons | exact EvAll.nil | (apply EvC.gv; exact rfl; (with_reducible first | exact Imp.refl _ | (apply Imp.left; exact Imp.refl _) | (apply Imp.right; exact Imp.refl _) | (apply Imp.left; apply Imp.left; exact Imp.refl _))) | (apply EvC.now; exact rfl))); done) | (first | exact ext_pub _ | exact ext_ext _) | (focus (repeat (first | apply List.Mem.head | apply List.Mem.tail | apply List.mem_append_right)))))); (simp only [List.set_cons_succ, List.set_cons_zero]; exact rfl))
    | ((with_reducible apply q_gd); (first | (apply GdBy.gt; exact rfl; exact rfl) | (apply GdBy.gf; exact rfl; exact rfl) | (apply GdBy.t; exact rfl; exact rfl) | (apply GdBy.f; exact rfl; exact rfl)); ((with_reducible apply t_num) <;> (first | (apply EvC.gv; exact rfl; (with_reducible first | exact Imp.refl _ | (apply Imp.left; exact Imp.refl _) | (apply Imp.right; exact Imp.refl _) | (apply Imp.left; apply Imp.left; exact Imp.refl _))) | (apply EvC.now; exact rfl) | exact rfl | (with_reducible exact EvAll.nil) | (focus (repeat (first | apply EvAll.cons | exact EvAll.nil | (apply EvC.gv; exact rfl; (with_reducible first | exact Imp.refl _ | (apply Imp.left; exact Imp.refl _) | (apply Imp.right; exact Imp.refl _) | (apply Imp.left; apply Imp.left; exact Imp.refl _))) | (apply EvC.now; exact rfl))); done) | (first | exact ext_pub _ | exact ext_ext _) | (focus (repeat (first | apply List.Mem.head | apply List.Mem.tail | apply List.mem_append_right))))); (simp only [List.set_cons_succ, List.set_cons_zero]; exact rfl))
    | ((with_reducible apply wpT1_gpure); (first | (apply GdBy.gt; exact rfl; exact rfl) | (apply GdBy.gf; exact rfl; exact rfl) | (apply GdBy.t; exact rfl; exact rfl) | (apply GdBy.f; exact rfl; exact rfl)); intro K hK; go_simp; refine hK _ ?_; clear hK K; simp only [List.set_cons_succ, List.set_cons_zero])
    | ((with_reducible apply wpT1_pure); exact rfl; intro K hK; go_simp; refine hK _ ?_; clear hK K; simp only [List.set_cons_succ, List.set_cons_zero]))
    refine wpT_nil ?_
    clear hR; intro w hR
    go_upto_if 8 with fail
    by_cases hkl : k < l.length
    · refine wp_cond_at (nm := true) rfl (by simp; omega) (fun _ => ?_) (fun h => absurd h (by decide))
      obtain ⟨z, hz⟩ : ∃ z, l[k]? = some z := ⟨_, List.getElem?_eq_getElem hkl⟩
      have hzo := hok z (List.mem_of_getElem? hz)
      have hzn := hnm z (List.mem_of_getElem? hz)
      obtain ⟨a, cap, rfl, hc⟩ := hP.el cellsPub_len hz
      have HC3 := Lib.hid (show w0.cell? ((a.add ((k : Int).toNat * 5)).add 3) = some (.string (strOfNums z.nm)) from hc 3 _ rfl)
      have HC4 := Lib.hid (show w0.cell? ((a.add ((k : Int).toNat * 5)).add 4) = some (.int .u16 z.o) from hc 4 _ rfl)
      have HMORE := Lib.hid (preP_more hz)
      have hpl := preP_len hnm k hk
      have HO := Lib.hid (show IntKind.u64.wrap (z.o : Int) = (z.o : Int) by rw [IntKind.wrap_u64]; have := hzo.2.2.2.2; omega)
      have ho := hzo.2.2.2.2
      have hno := hzo.2.2.2.1
      have hpre : 0 < k → preP l k = pubsB (l.take k) := fun h => if_neg (by omega)
      clear hc
      go_upto_if 12 with fail
      go_cut [3] (fun s wr => s = .string (strOfNums (preP l k)) ∧ Own w0 wr [])
      case first =>
        by_cases hk0 : k = 0
        · subst hk0
          refine wp_cond_at (nm := true) rfl (by simp) (fun _ => ?_) (fun h => absurd h (by decide))
          obtain ⟨a', cap', hv, hc⟩ := hP.el cellsPub_len hz
          injection hv with e1 e2 e3
          obtain rfl := Option.some.inj e1
          have H0 := Lib.hid (show w0.cell? ((a.add ((0 : Int).toNat * 5)).add 0) = some (.int .i64 z.g) from hc 0 _ rfl)
          have H1 := Lib.hid (show w0.cell? ((a.add ((0 : Int).toNat * 5)).add 1) = some (.int .i64 z.s) from hc 1 _ rfl)
          have H2 := Lib.hid (show w0.cell? ((a.add ((0 : Int).toNat * 5)).add 2) = some (.int .u16 z.f) from hc 2 _ rfl)
          have HPRE := Lib.hid (show preP l 0 = idxN z.g ++ (idxN z.s ++ (if z.s = 0 then bytesN z.f.toNat 2 else [])) by
            cases l with
            | nil => exact nomatch hz
            | cons p l => obtain rfl := Option.some.inj hz; rfl)
          obtain ⟨fn, hfn⟩ : ∃ fn : Nat, z.f = fn := Int.eq_ofNat_of_zero_le hzo.2.2.1.1
          have hfb : fn ≤ 65535 := by have := hzo.2.2.1.2; omega
          have HF := Lib.hid (show IntKind.u64.wrap z.f = (fn : Int) by rw [hfn, IntKind.wrap_u64]; omega)
          have HFN := Lib.hid (show z.f.toNat = fn by omega)
          have i1 := (idxN_len z.g).2
          have i2 := (idxN_len z.s).2
          have hgb := hzo.1
          have hsb := hzo.2.1
          clear hc e2 e3 hfn
          go_upto_region 6 with fail
          refine wp_region_rows hR [0, 1, 2, 3, 4, 5, 6, 7, 8, 9, 10, 11] 0 (by kernel_rfl) (by kernel_rfl) (by kernel_rfl) rfl ?_
          clear hR; intro hR
          repeat (refine wpT_step rfl ?_; first
    | ((with_reducible apply q_pl); (with_reducible apply t_six Try.underlying22 iPub); (apply EvC.now; exact rfl); (apply EvC.now; exact rfl); (constructor <;> omega); (simp only [List.set_cons_succ, List.set_cons_zero]; exact rfl))
    | ((with_reducible apply q_pl); (with_reducible apply t_fieldA (fPubA _ (by decide))); (apply EvC.now; exact rfl); (simp only [List.set_cons_succ, List.set_cons_zero]; exact rfl))
    | ((with_reducible apply q_pl); (with_reducible first | apply t_oldOne tIntR | apply t_oldOne tWordP | apply t_oldOne tStrO | apply t_oldOne tNumX); (apply EvC.now; exact rfl); (with_reducible (first | exact H0.out | exact H1.out)); exact rfl; (simp only [List.set_cons_succ, List.set_cons_zero]; exact rfl))
    | ((first | (with_reducible apply q_pl) | ((with_reducible apply q_gd); (first | (apply GdBy.gt; exact rfl; exact rfl) | (apply GdBy.gf; exact rfl; exact rfl) | (apply GdBy.t; exact rfl; exact rfl) | (apply GdBy.f; exact rfl; exact rfl)))); (with_reducible apply t_call Try.call22); (first | (apply EvC.gv; exact rfl; (with_reducible first | exact Imp.refl _ | (apply Imp.left; exact Imp.refl _) | (apply Imp.right; exact Imp.refl _) | (apply Imp.left; apply Imp.left; exact Imp.refl _))) | (apply EvC.now; exact rfl) | exact rfl | (with_reducible exact EvAll.nil) | (focus (repeat (first | apply EvAll.cons | exact EvAll.nil | (apply EvC.gv; exact rfl; (with_reducible first | exact Imp.refl _ | (apply Imp.left; exact Imp.refl _) | (apply Imp.right; exact Imp.refl _) | (apply Imp.left; apply Imp.left; exact Imp.refl _))) | (apply EvC.now; exact rfl))); done) | (first | exact ext_pub _ | exact ext_ext _) | (focus (repeat (first | apply List.Mem.head | apply List.Mem.tail | apply List.mem_append_right)))); (intro hcc w hC; exact tame_below (r18index_any _ _ (by omega) (by omega)) hC); (simp only [List.set_cons_succ, List.set_cons_zero]; exact rfl))
    | ((with_reducible apply q_pl); (with_reducible apply t_catE); (apply EvC.now; exact rfl); (apply EvC.now; exact rfl); (omega); (exact rfl); (simp only [List.set_cons_succ, List.set_cons_zero]; exact rfl))
    | ((first | (with_reducible apply q_pl) | ((with_reducible apply q_gd); (first | (apply GdBy.gt; exact rfl; exact rfl) | (apply GdBy.gf; exact rfl; exact rfl) | (apply GdBy.t; exact rfl; exact rfl) | (apply GdBy.f; exact rfl; exact rfl)))); (first | ((with_reducible first | apply t_move | apply t_assign | apply t_and | apply t_or | apply t_cmp | apply t_not | apply t_addr (fRec _ (by decide)) | apply t_addr (fPub _ (by decide)) | apply t_addr (fExt _ (by decide)) | apply t_one tByteR | apply t_one tSlR | apply t_one tIntR | apply t_one tWordP | apply t_one tNumX | apply t_one tStrO | apply t_part tPub | apply t_part tExt) <;> (first | (apply EvC.gv; exact rfl; (with_reducible first | exact Imp.refl _ | (apply Imp.left; exact Imp.refl _) | (apply Imp.right; exact Imp.refl _) | (apply Imp.left; apply Imp.left; exact Imp.refl _))) | (apply EvC.now; exact rfl) | exact rfl | (with_reducible exact EvAll.nil) | (focus (repeat (first | apply EvAll.cons | exact EvAll.nil | (apply EvC.gv; exact rfl; (with_reducible first | exact Imp.refl _ | (apply Imp.left; exact Imp.refl _) | (apply Imp.right; exact Imp.refl _) | (apply Imp.left; apply Imp.left; exact Imp.refl _))) | (apply EvC.now; exact rfl))); done) | (first | exact ext_pub _ | exact ext_ext _) | (focus (repeat (first | apply List.Mem.head | apply List.Mem.tail | apply List.mem_append_right)))))); (simp only [List.set_cons_succ, List.set_cons_zero]; exact rfl)))
          refine wpG_end hR (by kernel_rfl) ?_
          clear hR; intro w hR
          go_upto_if 28 with (first
    | ((with_reducible apply q_ls hR); exact rfl; (with_reducible apply t_six Try.underlying22 iPub); (apply EvC.now; exact rfl); (apply EvC.now; exact rfl); (constructor <;> omega); (simp only [List.set_cons_succ, List.set_cons_zero]; exact rfl); clear hR; intro w hR)
    | ((with_reducible apply q_ls hR); exact rfl; (with_reducible apply t_fieldA (fPubA _ (by decide))); (apply EvC.now; exact rfl); (simp only [List.set_cons_succ, List.set_cons_zero]; exact rfl); clear hR; intro w hR)
    | ((with_reducible apply q_ls hR); exact rfl; (with_reducible first | apply t_oldOne tIntR | apply t_oldOne tWordP | apply t_oldOne tStrO | apply t_oldOne tNumX); (apply EvC.now; exact rfl); (with_reducible exact H1.out); exact rfl; (simp only [List.set_cons_succ, List.set_cons_zero]; exact rfl); clear hR; intro w hR))
          by_cases hs0 : z.s = 0
          · refine wp_cond_at (nm := true) rfl (by simp [hs0]) (fun _ => ?_) (fun h => absurd h (by decide))
            have HV := Lib.hid (show (idxN z.g ++ idxN z.s) ++ bytesN fn 2 = preP l 0 by rw [HPRE.out, if_pos hs0, HFN.out]; simp)
            have hb2 := bytesN_len fn 2
            clear hs0
            go_wp2_with (first
    | ((with_reducible apply q_ls hR); exact rfl; (with_reducible apply t_six Try.underlying22 iPub); (apply EvC.now; exact rfl); (apply EvC.now; exact rfl); (constructor <;> omega); (simp only [List.set_cons_succ, List.set_cons_zero]; exact rfl); clear hR; intro w hR)
    | ((with_reducible apply q_ls hR); exact rfl; (with_reducible apply t_fieldA (fPubA _ (by decide))); (apply EvC.now; exact rfl); (simp only [List.set_cons_succ, List.set_cons_zero]; exact rfl); clear hR; intro w hR)
    | ((with_reducible apply q_ls hR); exact rfl; (with_reducible first | apply t_oldOne tIntR | apply t_oldOne tWordP | apply t_oldOne tStrO | apply t_oldOne tNumX); (apply EvC.now; exact rfl); (with_reducible exact H2.out); exact rfl; (simp only [List.set_cons_succ, List.set_cons_zero]; exact rfl); clear hR; intro w hR)
    | ((with_reducible apply q_ls hR); exact rfl; (with_reducible apply t_conv Try.underlying23 Try.underlying57); (apply EvC.now; exact rfl); exact HF.out; (simp only [List.set_cons_succ, List.set_cons_zero]; exact rfl); clear hR; intro w hR)
    | (go_at_call 23; refine (r18bytes_any fn 2 _ (by omega) (by decide)).mono ?_; rintro e w' ⟨rfl, hb⟩; replace hR := hR.grow hb; clear hb)
    | ((with_reducible apply q_ls hR); exact rfl; (with_reducible apply t_catE); (apply EvC.now; exact rfl); (apply EvC.now; exact rfl); (simp only [List.length_append]; omega); exact HV.out; (simp only [List.set_cons_succ, List.set_cons_zero]; exact rfl); clear hR; intro w hR))
            go_meet
            exact ⟨rfl, hR⟩
          · refine wp_cond_at (nm := false) rfl (by simp [hs0]) (fun h => absurd h (by decide)) (fun _ => ?_)
            have HV := Lib.hid (show idxN z.g ++ idxN z.s = preP l 0 by rw [HPRE.out, if_neg hs0]; simp)
            go_wp2_with fail
            go_meet
            exact ⟨by rw [HV.out], hR⟩
        · refine wp_cond_at (nm := false) rfl (by simp; omega) (fun h => absurd h (by decide)) (fun _ => ?_)
          have HV := Lib.hid (hpre (by omega))
          go_wp2_with fail
          go_meet
          exact ⟨by rw [HV.out], hR⟩
      case rest =>
      clear hR hpre
      obtain ⟨rfl, hR⟩ := hcut
      have hn18 := nam18_len z.nm
      have hb2 := bytesN_len z.o 2
      have hnl : (nam18 z.nm).length ≤ 41 := by omega
      have HPB := Lib.hid (show (nam18 z.nm ++ bytesN z.o 2) ++ [0] = pubB z by unfold pubB; simp)
      have hpb := (pubB_len z).2 (by omega)
      have hpb2 : (pubB z).length ≤ 44 := by omega
      generalize preP l k = q at *
      clear hn18 hpb
      go_upto_region 9 with fail
      refine wp_region_rows hR [0, 1, 2, 3, 4, 5, 6, 7, 8, 9, 10, 11, 12, 13, 14, 15, 16, 17] 0 (by kernel_rfl) (by kernel_rfl) (by kernel_rfl) rfl ?_
      clear hR; intro hR
      repeat (refine wpT_step rfl ?_; first
    | ((with_reducible apply q_pl); (with_reducible apply t_six Try.underlying22 iPub); (apply EvC.now; exact rfl); (apply EvC.now; exact rfl); (constructor <;> omega); (simp only [List.set_cons_succ, List.set_cons_zero]; exact rfl))
    | ((with_reducible apply q_pl); (with_reducible apply t_fieldA (fPubA _ (by decide))); (apply EvC.now; exact rfl); (simp only [List.set_cons_succ, List.set_cons_zero]; exact rfl))
    | ((with_reducible apply q_pl); (with_reducible first | apply t_oldOne tIntR | apply t_oldOne tWordP | apply t_oldOne tStrO | apply t_oldOne tNumX); (apply EvC.now; exact rfl); (with_reducible (first | exact HC3.out | exact HC4.out)); exact rfl; (simp only [List.set_cons_succ, List.set_cons_zero]; exact rfl))
    | ((with_reducible apply q_pl); (with_reducible apply t_conv Try.underlying23 Try.underlying57); (apply EvC.now; exact rfl); exact HO.out; (simp only [List.set_cons_succ, List.set_cons_zero]; exact rfl))
    | ((first | (with_reducible apply q_pl) | ((with_reducible apply q_gd); (first | (apply GdBy.gt; exact rfl; exact rfl) | (apply GdBy.gf; exact rfl; exact rfl) | (apply GdBy.t; exact rfl; exact rfl) | (apply GdBy.f; exact rfl; exact rfl)))); (with_reducible apply t_call Try.call10); (first | (apply EvC.gv; exact rfl; (with_reducible first | exact Imp.refl _ | (apply Imp.left; exact Imp.refl _) | (apply Imp.right; exact Imp.refl _) | (apply Imp.left; apply Imp.left; exact Imp.refl _))) | (apply EvC.now; exact rfl) | exact rfl | (with_reducible exact EvAll.nil) | (focus (repeat (first | apply EvAll.cons | exact EvAll.nil | (apply EvC.gv; exact rfl; (with_reducible first | exact Imp.refl _ | (apply Imp.left; exact Imp.refl _) | (apply Imp.right; exact Imp.refl _) | (apply Imp.left; apply Imp.left; exact Imp.refl _))) | (apply EvC.now; exact rfl))); done) | (first | exact ext_pub _ | exact ext_ext _) | (focus (repeat (first | apply List.Mem.head | apply List.Mem.tail | apply List.mem_append_right)))); (intro hcc w hC; exact tame_below (r18name_any _ _ hno (by omega)) hC); (simp only [List.set_cons_succ, List.set_cons_zero]; exact rfl))
    | ((first | (with_reducible apply q_pl) | ((with_reducible apply q_gd); (first | (apply GdBy.gt; exact rfl; exact rfl) | (apply GdBy.gf; exact rfl; exact rfl) | (apply GdBy.t; exact rfl; exact rfl) | (apply GdBy.f; exact rfl; exact rfl)))); (with_reducible apply t_call Try.call23); (first | (apply EvC.gv; exact rfl; (with_reducible first | exact Imp.refl _ | (apply Imp.left; exact Imp.refl _) | (apply Imp.right; exact Imp.refl _) | (apply Imp.left; apply Imp.left; exact Imp.refl _))) | (apply EvC.now; exact rfl) | exact rfl | (with_reducible exact EvAll.nil) | (focus (repeat (first | apply EvAll.cons | exact EvAll.nil | (apply EvC.gv; exact rfl; (with_reducible first | exact Imp.refl _ | (apply Imp.left; exact Imp.refl _) | (apply Imp.right; exact Imp.refl _) | (apply Imp.left; apply Imp.left; exact Imp.refl _))) | (apply EvC.now; exact rfl))); done) | (first | exact ext_pub _ | exact ext_ext _) | (focus (repeat (first | apply List.Mem.head | apply List.Mem.tail | apply List.mem_append_right)))); (intro hcc w hC; exact tame_below (r18bytes_any z.o 2 _ (by omega) (by decide)) hC); (simp only [List.set_cons_succ, List.set_cons_zero]; exact rfl))
    | ((with_reducible apply q_pl); (with_reducible apply t_catE (b := [0])); (apply EvC.now; exact rfl); (exact lit_now lit0b); (simp only [List.length_append, List.length_cons, List.length_nil]; omega); (exact HPB.out); (simp only [List.set_cons_succ, List.set_cons_zero]; exact rfl))
    | ((with_reducible apply q_pl); (with_reducible apply t_catE); (apply EvC.now; exact rfl); (apply EvC.now; exact rfl); (omega); ((first | exact HMORE.out | exact rfl)); (simp only [List.set_cons_succ, List.set_cons_zero]; exact rfl))
    | ((first | (with_reducible apply q_pl) | ((with_reducible apply q_gd); (first | (apply GdBy.gt; exact rfl; exact rfl) | (apply GdBy.gf; exact rfl; exact rfl) | (apply GdBy.t; exact rfl; exact rfl) | (apply GdBy.f; exact rfl; exact rfl)))); (first | ((with_reducible first | apply t_move | apply t_assign | apply t_and | apply t_or | apply t_cmp | apply t_not | apply t_addr (fRec _ (by decide)) | apply t_addr (fPub _ (by decide)) | apply t_addr (fExt _ (by decide)) | apply t_one tByteR | apply t_one tSlR | apply t_one tIntR | apply t_one tWordP | apply t_one tNumX | apply t_one tStrO | apply t_part tPub | apply t_part tExt) <;> (first | (apply EvC.gv; exact rfl; (with_reducible first | exact Imp.refl _ | (apply Imp.left; exact Imp.refl _) | (apply Imp.right; exact Imp.refl _) | (apply Imp.left; apply Imp.left; exact Imp.refl _))) | (apply EvC.now; exact rfl) | exact rfl | (with_reducible exact EvAll.nil) | (focus (repeat (first | apply EvAll.cons | exact EvAll.nil | (apply EvC.gv; exact rfl; (with_reducible first | exact Imp.refl _ | (apply Imp.left; exact Imp.refl _) | (apply Imp.right; exact Imp.refl _) | (apply Imp.left; apply Imp.left; exact Imp.refl _))) | (apply EvC.now; exact rfl))); done) | (first | exact ext_pub _ | exact ext_ext _) | (focus (repeat (first | apply List.Mem.head | apply List.Mem.tail | apply List.mem_append_right)))))); (simp only [List.set_cons_succ, List.set_cons_zero]; exact rfl)))
      refine wpG_end hR (by kernel_rfl) ?_
      clear hR; intro w hR
      go_wp2_with fail
      go_round
      case rel => exact ⟨k + 1, rfl, by omega, rfl, hR⟩
      case measure => simp [intOf]; omega
    · refine wp_cond_at (nm := false) rfl (by simp; omega) (fun h => absurd h (by decide)) (fun _ => ?_)
      have hkl2 : l.take k = l := List.take_of_length_le (by omega)
      rw [hkl2]
      go_wp2_with fail
      go_ret
      exact ⟨rfl, hR.below⟩
theorem lit0x : (⟨#[0]⟩ : ByteArray) = strOfNums [0] := rfl
set_option maxHeartbeats 4000000 in
set_option maxRecDepth 100000 in
theorem r21mads_any {w0 : World} (v : Value) (l : List ExtZ) (hP : RowsAt 3 cellsExt w0 v l) (hok : ∀ p ∈ l, p.ok) (hn : l.length ≤ 1000) (hnm : ∀ p ∈ l, p.nm.length ≤ 40) :
    Calls Try.prog 15 #[v] w0 fun e w' => e = .returned (.string (strOfNums (l.flatMap madB))) ∧ Below w0.heap.size w0 w' := by
  have hR := Own.start w0
  go_enter Try.func15, Try.ntmps15
  go_wp2_with fail
  go_loopw [3, 4] (fun s i wr => ∃ k : Nat, i = .int .i64 k ∧ k ≤ l.length ∧ s = .string (strOfNums ((l.take k).flatMap madB)) ∧ Own w0 wr []) (fun _ i _ => l.length - (intOf i).toNat)
  case atStart => exact ⟨0, rfl, Nat.zero_le _, rfl, hR⟩
  case round =>
    clear hR
    obtain ⟨k, rfl, hk, rfl, hR⟩ := hrel
    go_upto_region 3 with fail
    refine wp_region_tame hR [0, 1, 2, 3] rfl ?_
    repeat (refine wpT_step rfl ?_; first
    | ((with_reducible apply q_pl); (with_reducible apply t_lenRd Try.underlying39); (apply EvC.now; exact rfl); exact hP; (simp only [List.set_cons_succ, List.set_cons_zero]; exact rfl))
    | ((first | (with_reducible apply q_pl) | ((with_reducible apply q_gd); (first | (apply GdBy.gt; exact rfl; exact rfl) | (apply GdBy.gf; exact rfl; exact rfl) | (apply GdBy.t; exact rfl; exact rfl) | (apply GdBy.f; exact rfl; exact rfl)))); (first | ((with_reducible first | apply t_move | apply t_assign | apply t_and | apply t_or | apply t_cmp | apply t_not | apply t_addr (fRec _ (by decide)) | apply t_addr (fPub _ (by decide)) | apply t_addr (fExt _ (by decide)) | apply t_one tByteR | apply t_one tSlR | apply t_one tIntR | apply t_one tWordP | apply t_one tNumX | apply t_one tStrO | apply t_part tPub | apply t_part tExt) <;> (first | (apply EvC.gv; exact rfl; (with_reducible first | exact Imp.refl _ | (apply Imp.left; exact Imp.refl _) | (apply Imp.right; exact Imp.refl _) | (apply Imp.left; apply Imp.left; exact Imp.refl _))) | (apply EvC.now; exact rfl) | exact rfl | (with_reducible exact EvAll.nil) | (focus (repeat (first | apply EvAll.cons | exact EvAll.nil | (apply EvC.gv; exact rfl; (with_reducible first | exact Imp.refl _ | (apply Imp.left; exact Imp.refl _) | (apply Imp.right; exact Imp.refl _) | (apply Imp.left; apply Imp.left; exact Imp.refl _))) | (apply EvC.now; exact rfl))); done) | (first | exact ext_pub _ | exact ext_ext _) | (focus (repeat (first | apply List.Mem.head | apply List.Mem.tail | apply List.mem_append_right)))))); (simp only [List.set_cons_succ, List.set_cons_zero]; exact rfl))
    | ((with_reducible apply q_gd); (first | (apply GdBy.gt; exact rfl; exact rfl) | (apply GdBy.gf; exact rfl; exact rfl) | (apply GdBy.t; exact rfl; exact rfl) | (apply GdBy.f; exact rfl; exact rfl)); ((with_reducible apply t_num) <;> (first | (apply EvC.gv; exact rfl; (with_reducible first | exact Imp.refl _ | (apply Imp.left; exact Imp.refl _) | (apply Imp.right; exact Imp.refl _) | (apply Imp.left; apply Imp.left; exact Imp.refl _))) | (apply EvC.now; exact rfl) | exact rfl | (with_reducible exact EvAll.nil) | (focus (repeat (first | apply EvAll.cons | exact EvAll.nil | (apply EvC.gv; exact rfl; (with_reducible first | exact Imp.refl _ | (apply Imp.left; exact Imp.refl _) | (apply Imp.right; exact Imp.refl _) | (apply Imp.left; apply Imp.left; exact Imp.refl _))) | (apply EvC.now; exact rfl))); done) | (first | exact ext_pub _ | exact ext_ext _) | (focus (repeat (first | apply List.Mem.head | apply List.Mem.tail | apply List.mem_append_right))))); (simp only [List.set_cons_succ, List.set_cons_zero]; exact rfl))
    | ((with_reducible apply wpT1_gpure); (first | (apply GdBy.gt; exact rfl; exact rfl) | (apply GdBy.gf; exact rfl; exact rfl) | (apply GdBy.t; exact rfl; exact rfl) | (apply GdBy.f; exact rfl; exact rfl)); intro K hK; go_simp; refine hK _ ?_; clear hK K; simp only [List.set_cons_succ, List.set_cons_zero])
    | ((with_reducible apply wpT1_pure); exact rfl; intro K hK; go_simp; refine hK _ ?_; clear hK K; simp only [List.set_cons_succ, List.set_cons_zero]))
    refine wpT_nil ?_
    clear hR; intro w hR
    go_upto_if 8 with fail
    by_cases hkl : k < l.length
    · refine wp_cond_at (nm := true) rfl (by simp; omega) (fun _ => ?_) (fun h => absurd h (by decide))
      obtain ⟨z, hz⟩ : ∃ z, l[k]? = some z := ⟨_, List.getElem?_eq_getElem hkl⟩
      have hzo := hok z (List.mem_of_getElem? hz)
      have hzn := hnm z (List.mem_of_getElem? hz)
      obtain ⟨a, cap, rfl, hc⟩ := hP.el cellsExt_len hz
      have HC0 := Lib.hid (show w0.cell? ((a.add ((k : Int).toNat * 3)).add 0) = some (.string (strOfNums z.nm)) from hc 0 _ rfl)
      have HC1 := Lib.hid (show w0.cell? ((a.add ((k : Int).toNat * 3)).add 1) = some (.int .i64 z.c) from hc 1 _ rfl)
      have HC2 := Lib.hid (show w0.cell? ((a.add ((k : Int).toNat * 3)).add 2) = some (.int .u32 z.l) from hc 2 _ rfl)
      have HMORE := Lib.hid (show (l.take k).flatMap madB ++ (nam18 z.nm ++ (0 :: (if z.c = 97 then 97 :: (longN z.l ++ [1]) else 98 :: longN z.l))) = (l.take (k + 1)).flatMap madB by rw [List.take_add_one, hz]; simp [madB])
      have hpl := mads_len (l := l.take k) fun p hp => hnm p (List.mem_of_mem_take hp)
      rw [List.length_take] at hpl
      have hpl2 : ((l.take k).flatMap madB).length ≤ 49000 := by omega
      have ho := hzo.2.2
      have hno := hzo.1
      have hn18 := nam18_len z.nm
      have hnl : (nam18 z.nm).length ≤ 41 := by omega
      have hll := longN_len z.l
      obtain ⟨q, hq⟩ : ∃ q, (l.take k).flatMap madB = q := ⟨_, rfl⟩
      rw [hq] at HMORE hpl2 ⊢
      clear hc hpl hn18 hq
      go_upto_region 6 with (first
    | ((with_reducible apply q_ls hR); exact rfl; (with_reducible apply t_six Try.underlying39 iExt); (apply EvC.now; exact rfl); (apply EvC.now; exact rfl); (constructor <;> omega); (simp only [List.set_cons_succ, List.set_cons_zero]; exact rfl); clear hR; intro w hR)
    | ((with_reducible apply q_ls hR); exact rfl; (with_reducible apply t_fieldA (fExtA _ (by decide))); (apply EvC.now; exact rfl); (simp only [List.set_cons_succ, List.set_cons_zero]; exact rfl); clear hR; intro w hR)
    | ((with_reducible apply q_ls hR); exact rfl; (with_reducible first | apply t_oldOne tIntR | apply t_oldOne tWordP | apply t_oldOne tStrO | apply t_oldOne tNumX); (apply EvC.now; exact rfl); (with_reducible exact HC0.out); exact rfl; (simp only [List.set_cons_succ, List.set_cons_zero]; exact rfl); clear hR; intro w hR)
    | (go_at_call 10; refine (r18name_any _ _ hno (by omega)).mono ?_; rintro e w' ⟨rfl, hb⟩; replace hR := hR.grow hb; clear hb)
    | ((with_reducible apply q_ls hR); exact rfl; (with_reducible apply t_catE (b := [0])); (apply EvC.now; exact rfl); (exact lit_now lit0x); (simp only [List.length_cons, List.length_nil]; omega); exact rfl; (simp only [List.set_cons_succ, List.set_cons_zero]; exact rfl); clear hR; intro w hR)
    | ((with_reducible apply q_ls hR); exact rfl; (with_reducible apply t_catE); (apply EvC.now; exact rfl); (apply EvC.now; exact rfl); (simp only [List.length_append, List.length_cons, List.length_nil]; omega); exact rfl; (simp only [List.set_cons_succ, List.set_cons_zero]; exact rfl); clear hR; intro w hR))
      go_upto_if 25 with (first
    | ((with_reducible apply q_ls hR); exact rfl; (with_reducible apply t_six Try.underlying39 iExt); (apply EvC.now; exact rfl); (apply EvC.now; exact rfl); (constructor <;> omega); (simp only [List.set_cons_succ, List.set_cons_zero]; exact rfl); clear hR; intro w hR)
    | ((with_reducible apply q_ls hR); exact rfl; (with_reducible apply t_fieldA (fExtA _ (by decide))); (apply EvC.now; exact rfl); (simp only [List.set_cons_succ, List.set_cons_zero]; exact rfl); clear hR; intro w hR)
    | ((with_reducible apply q_ls hR); exact rfl; (with_reducible first | apply t_oldOne tIntR | apply t_oldOne tWordP | apply t_oldOne tStrO | apply t_oldOne tNumX); (apply EvC.now; exact rfl); (with_reducible exact HC1.out); exact rfl; (simp only [List.set_cons_succ, List.set_cons_zero]; exact rfl); clear hR; intro w hR))
      by_cases h97 : z.c = 97
      · refine wp_cond_at (nm := true) rfl (by simp [h97]) (fun _ => ?_) (fun h => absurd h (by decide))
        have HV := Lib.hid (show (q ++ (nam18 z.nm ++ [0])) ++ (([97] ++ longN z.l) ++ [1]) = (l.take (k + 1)).flatMap madB by rw [← HMORE.out, if_pos h97]; simp)
        clear h97 HMORE
        go_wp2_with (first
    | ((with_reducible apply q_ls hR); exact rfl; (with_reducible apply t_six Try.underlying39 iExt); (apply EvC.now; exact rfl); (apply EvC.now; exact rfl); (constructor <;> omega); (simp only [List.set_cons_succ, List.set_cons_zero]; exact rfl); clear hR; intro w hR)
    | ((with_reducible apply q_ls hR); exact rfl; (with_reducible apply t_fieldA (fExtA _ (by decide))); (apply EvC.now; exact rfl); (simp only [List.set_cons_succ, List.set_cons_zero]; exact rfl); clear hR; intro w hR)
    | ((with_reducible apply q_ls hR); exact rfl; (with_reducible first | apply t_oldOne tIntR | apply t_oldOne tWordP | apply t_oldOne tStrO | apply t_oldOne tNumX); (apply EvC.now; exact rfl); (with_reducible exact HC2.out); exact rfl; (simp only [List.set_cons_succ, List.set_cons_zero]; exact rfl); clear hR; intro w hR)
    | (go_at_call 16; refine (r18long_any z.l _ (by omega)).mono ?_; rintro e w' ⟨rfl, hb⟩; replace hR := hR.grow hb; clear hb)
    | ((with_reducible apply q_ls hR); exact rfl; (with_reducible apply t_catE (a := [97])); (exact lit_now lit97b); (apply EvC.now; exact rfl); (simp only [List.length_cons, List.length_nil]; omega); exact rfl; (simp only [List.set_cons_succ, List.set_cons_zero]; exact rfl); clear hR; intro w hR)
    | ((with_reducible apply q_ls hR); exact rfl; (with_reducible apply t_catE (b := [1])); (apply EvC.now; exact rfl); (exact lit_now lit1b); (simp only [List.length_append, List.length_cons, List.length_nil]; omega); exact rfl; (simp only [List.set_cons_succ, List.set_cons_zero]; exact rfl); clear hR; intro w hR)
    | ((with_reducible apply q_ls hR); exact rfl; (with_reducible apply t_catE); (apply EvC.now; exact rfl); (apply EvC.now; exact rfl); (simp only [List.length_append, List.length_cons, List.length_nil]; omega); exact HV.out; (simp only [List.set_cons_succ, List.set_cons_zero]; exact rfl); clear hR; intro w hR))
        go_round
        case rel => exact ⟨k + 1, rfl, by omega, rfl, hR⟩
        case measure => simp [intOf]; omega
      · refine wp_cond_at (nm := false) rfl (by simp [h97]) (fun h => absurd h (by decide)) (fun _ => ?_)
        have HV := Lib.hid (show (q ++ (nam18 z.nm ++ [0])) ++ ([98] ++ longN z.l) = (l.take (k + 1)).flatMap madB by rw [← HMORE.out, if_neg h97]; simp)
        clear h97 HMORE
        go_wp2_with (first
    | ((with_reducible apply q_ls hR); exact rfl; (with_reducible apply t_six Try.underlying39 iExt); (apply EvC.now; exact rfl); (apply EvC.now; exact rfl); (constructor <;> omega); (simp only [List.set_cons_succ, List.set_cons_zero]; exact rfl); clear hR; intro w hR)
    | ((with_reducible apply q_ls hR); exact rfl; (with_reducible apply t_fieldA (fExtA _ (by decide))); (apply EvC.now; exact rfl); (simp only [List.set_cons_succ, List.set_cons_zero]; exact rfl); clear hR; intro w hR)
    | ((with_reducible apply q_ls hR); exact rfl; (with_reducible first | apply t_oldOne tIntR | apply t_oldOne tWordP | apply t_oldOne tStrO | apply t_oldOne tNumX); (apply EvC.now; exact rfl); (with_reducible exact HC2.out); exact rfl; (simp only [List.set_cons_succ, List.set_cons_zero]; exact rfl); clear hR; intro w hR)
    | (go_at_call 16; refine (r18long_any z.l _ (by omega)).mono ?_; rintro e w' ⟨rfl, hb⟩; replace hR := hR.grow hb; clear hb)
    | ((with_reducible apply q_ls hR); exact rfl; (with_reducible apply t_catE (a := [98])); (exact lit_now lit98b); (apply EvC.now; exact rfl); (simp only [List.length_cons, List.length_nil]; omega); exact rfl; (simp only [List.set_cons_succ, List.set_cons_zero]; exact rfl); clear hR; intro w hR)
    | ((with_reducible apply q_ls hR); exact rfl; (with_reducible apply t_catE); (apply EvC.now; exact rfl); (apply EvC.now; exact rfl); (simp only [List.length_append, List.length_cons, List.length_nil]; omega); exact HV.out; (simp only [List.set_cons_succ, List.set_cons_zero]; exact rfl); clear hR; intro w hR))
        go_round
        case rel => exact ⟨k + 1, rfl, by omega, rfl, hR⟩
        case measure => simp [intOf]; omega
    · refine wp_cond_at (nm := false) rfl (by simp; omega) (fun h => absurd h (by decide)) (fun _ => ?_)
      have hkl2 : l.take k = l := List.take_of_length_le (by omega)
      rw [hkl2]
      go_wp2_with fail
      go_ret
      exact ⟨rfl, hR.below⟩
end Go.Proofs.Ytmiakniilimghaa
