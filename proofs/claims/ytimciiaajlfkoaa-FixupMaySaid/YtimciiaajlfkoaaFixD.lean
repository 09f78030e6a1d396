










/- The contracts of package fixup that read a source: an index, what a thread tells, a frame, a target, a thread. No statement of the seat is proved here. -/
import Derived.Test.YtimciiaajlfkoaaFixA
import Derived.Test.YtimciiaajlfkoaaThsT
import Derived.Test.YtimciiaajlfkoaaEat
import Derived.Test.YtimciiaajlfkoaaIdx
namespace Go.Proofs.Ytimciiaajlfkoaa
open Go.ChangeShapes Go.WideShapes Go.ChangeAt Go.RowKit
set_option linter.unusedVariables false
set_option linter.unusedSimpArgs false

theorem fThr (k : Nat) (h : k < 3) : FieldAt Try.prog 39 k k := by
  match k, h with
  | 0, _ => exact ⟨fun g w => by simp [go_sem, Instr.fieldAt, fieldPlace]⟩
  | 1, _ => exact ⟨fun g w => by simp [go_sem, Instr.fieldAt, fieldPlace]⟩
  | 2, _ => exact ⟨fun g w => by simp [go_sem, Instr.fieldAt, fieldPlace]⟩
theorem i4 : (Try.prog.info? 40).map (·.size) = some 12 := by kernel_rfl
theorem t4 : RowTy Try.prog 40 12 := .of Try.underlying40 rfl i4
/-! ### Bits of a byte -/
theorem fx_and (m : Int) (f : Int → Int) (h : ∀ n : Fin 256, bits .and .u8 ((n.val : Nat) : Int) m = f ((n.val : Nat) : Int)) {x : Int} (h0 : 0 ≤ x) (h1 : x ≤ 255) : bits .and .u8 x m = f x := by
  have := h ⟨x.toNat, by omega⟩
  rwa [show ((x.toNat : Nat) : Int) = x by omega] at this
theorem fx3 {x : Int} (h0 : 0 ≤ x) (h1 : x ≤ 255) : bits .and .u8 x 3 = x % 4 := fx_and 3 (· % 4) (by decide +kernel) h0 h1
theorem fx7 {x : Int} (h0 : 0 ≤ x) (h1 : x ≤ 255) : bits .and .u8 x 7 = x % 8 := fx_and 7 (· % 8) (by decide +kernel) h0 h1
theorem fx15 {x : Int} (h0 : 0 ≤ x) (h1 : x ≤ 255) : bits .and .u8 x 15 = x % 16 := fx_and 15 (· % 16) (by decide +kernel) h0 h1
theorem fx4 {x : Int} (h0 : 0 ≤ x) (h1 : x ≤ 255) : bits .and .u8 x 4 = x / 4 % 2 * 4 := fx_and 4 (fun x => x / 4 % 2 * 4) (by decide +kernel) h0 h1
theorem fx8 {x : Int} (h0 : 0 ≤ x) (h1 : x ≤ 255) : bits .and .u8 x 8 = x / 8 % 2 * 8 := fx_and 8 (fun x => x / 8 % 2 * 8) (by decide +kernel) h0 h1
theorem fx32 {x : Int} (h0 : 0 ≤ x) (h1 : x ≤ 255) : bits .and .u8 x 32 = x / 32 % 2 * 32 := fx_and 32 (fun x => x / 32 % 2 * 32) (by decide +kernel) h0 h1
theorem fx64 {x : Int} (h0 : 0 ≤ x) (h1 : x ≤ 255) : bits .and .u8 x 64 = x / 64 % 2 * 64 := fx_and 64 (fun x => x / 64 % 2 * 64) (by decide +kernel) h0 h1
theorem fx128 {x : Int} (h0 : 0 ≤ x) (h1 : x ≤ 255) : bits .and .u8 x 128 = x / 128 * 128 := fx_and 128 (fun x => x / 128 * 128) (by decide +kernel) h0 h1
section
variable {w0 w : World} {l X sr : List RowT} {g : Nat} {cs : Array Value} {s : SrcZ}
theorem fixNumber_any (hO : Own w0 w l) (hd : Les [(g, cs, 76)] l X) (hY : ∀ r ∈ sr, r ∈ X) (hS : SrcObj w0 sr cs s) (hok : s.ok) (hl : s.b.length ≤ 1000000) (b : Int) : Calls Try.prog 42 #[.pointer (some ⟨g, 0, none⟩), .int .i64 b] w fun e w' => e = .returned (.int .i64 (numberR b s).1) ∧ ThenS w0 g X sr (numberR b s).2 w' := by
  have hR : Own w0 w ((g, cs, 76) :: X) := hO.les hd
  clear hO hd
  cases hb : hasB b
  · have HN := Lib.hid (show numberR b s = (0, s) from if_neg (by unfold hasB at hb; simp at hb; omega))
    have HC : Hid (∀ w, Calls Try.prog 22 #[.int .i64 b] w fun e w' => e = .returned (.bool false) ∧ Below w.heap.size w w') := Lib.hid fun w => by have := fixHas_any b w; rwa [hb] at this
    clear hb
    go_enter Try.func42, Try.ntmps42
    go_wp2_with (first
    | (go_at_call 22; refine (HC.out _).mono ?_; rintro e w' ⟨rfl, hb⟩; replace hR := hR.grow hb; clear hb))
    go_ret
    rw [HN.out]
    exact ⟨rfl, cs, hR, hS⟩
  · have HN := Lib.hid (show numberR b s = indexZ s from if_pos (by unfold hasB at hb; simp at hb; omega))
    have HC : Hid (∀ w, Calls Try.prog 22 #[.int .i64 b] w fun e w' => e = .returned (.bool true) ∧ Below w.heap.size w w') := Lib.hid fun w => by have := fixHas_any b w; rwa [hb] at this
    clear hb
    go_enter Try.func42, Try.ntmps42
    go_wp2_with (first
    | (go_at_call 22; refine (HC.out _).mono ?_; rintro e w' ⟨rfl, hb⟩; replace hR := hR.grow hb; clear hb)
    | (go_at_call 51; refine (indexX_any hR Les.one hY hS hok hl).mono ?_; rintro e w' ⟨rfl, cs2, hR2, hS2⟩; clear hR hS; have hR := hR2; have hS := hS2; clear hR2 hS2))
    go_ret
    rw [HN.out]
    exact ⟨rfl, _, hR, hS⟩
theorem fixMeant_any (hO : Own w0 w l) (hd : Les [(g, cs, 76)] l X) (hY : ∀ r ∈ sr, r ∈ X) (hS : SrcObj w0 sr cs s) (hok : s.ok) (hl : s.b.length ≤ 1000000) (h : ThrZ) : Calls Try.prog 52 #[.pointer (some ⟨g, 0, none⟩), .agg (encThr h)] w fun e w' => e = .returned (.tuple #[.int .i64 h.b, .int .i64 h.n]) ∧ ThenS w0 g X sr (toldR h s).2 w' := by
  have hR : Own w0 w ((g, cs, 76) :: X) := hO.les hd
  clear hO hd
  cases hi : h.is
  · have HN := Lib.hid (show (toldR h s).2 = wrongZ s 5 by unfold toldR; rw [hi]; rfl)
    have HI := Lib.hid (show (encThr h).toList[0]? = some (.bool false) by rw [← hi]; rfl)
    clear hi
    go_enter Try.func52, Try.ntmps52
    go_upto_region 3 with (first
    | ((with_reducible apply wpList_box hR); exact rfl; exact rfl; clear hR; intro g3 w hR; simp only [List.set_cons_succ, List.set_cons_zero])
    | ((with_reducible apply q_ls hR); exact rfl; (with_reducible apply t_one tBoolF); (apply EvC.now; exact rfl); (focus (repeat (first | apply List.Mem.head | apply List.Mem.tail | apply List.mem_append_right))); exact HI.out; (simp only [List.set_cons_succ, List.set_cons_zero]; exact rfl); clear hR; intro w hR)
    | (go_at_call 32; refine (wrongX_any hR (Les.tail Les.one) (fun r hr => .tail _ (hY r hr)) hS hok 5 (by decide) (by decide) (by decide)).mono ?_; rintro e w' ⟨rfl, cs2, hR2, hS2⟩; clear hR hS; have hR := hR2; have hS := hS2; clear hR2 hS2)
    | ((with_reducible apply q_ls hR); exact rfl; ((with_reducible first | apply t_addr (fFix _ (by decide)) | apply t_addr (fThs _ (by decide)) | apply t_addr (fThr _ (by decide)) | apply t_one tByteR | apply t_one tIntR | apply t_one tBoolF | apply t_one tWordF | apply t_part tFix) <;> (first | (apply EvC.gv; exact rfl; (with_reducible first | exact Imp.refl _ | (apply Imp.left; exact Imp.refl _) | (apply Imp.right; exact Imp.refl _) | (apply Imp.left; apply Imp.left; exact Imp.refl _))) | (apply EvC.now; exact rfl) | exact rfl | (with_reducible exact EvAll.nil) | (focus (repeat (first | apply EvAll.cons | exact EvAll.nil | (apply EvC.gv; exact rfl; (with_reducible first | exact Imp.refl _ | (apply Imp.left; exact Imp.refl _) | (apply Imp.right; exact Imp.refl _) | (apply Imp.left; apply Imp.left; exact Imp.refl _))) | (apply EvC.now; exact rfl))); done) | exact ext_fix _ | (focus (repeat (first | apply List.Mem.head | apply List.Mem.tail | apply List.mem_append_right))))); (simp only [List.set_cons_succ, List.set_cons_zero]; exact rfl); clear hR; intro w hR))
    refine wp_region_rows hR [0, 1, 2, 3, 4, 5] 0 (by kernel_rfl) (by kernel_rfl) (by kernel_rfl) rfl ?_
    clear hR; intro hR
    repeat (refine wpT_step rfl ?_; first
    | ((first | (with_reducible apply q_pl) | ((with_reducible apply q_gd); (first | (apply GdBy.gt; exact rfl; exact rfl) | (apply GdBy.gf; exact rfl; exact rfl) | (apply GdBy.t; exact rfl; exact rfl) | (apply GdBy.f; exact rfl; exact rfl)))); (first | ((with_reducible first | apply t_move | apply t_assign | apply t_and | apply t_or | apply t_cmp | apply t_not | apply t_addr (fFix _ (by decide)) | apply t_addr (fThs _ (by decide)) | apply t_addr (fThr _ (by decide)) | apply t_one tByteR | apply t_one tIntR | apply t_one tBoolF | apply t_one tWordF | apply t_part tFix) <;> (first | (apply EvC.gv; exact rfl; (with_reducible first | exact Imp.refl _ | (apply Imp.left; exact Imp.refl _) | (apply Imp.right; exact Imp.refl _) | (apply Imp.left; apply Imp.left; exact Imp.refl _))) | (apply EvC.now; exact rfl) | exact rfl | (with_reducible exact EvAll.nil) | (focus (repeat (first | apply EvAll.cons | exact EvAll.nil | (apply EvC.gv; exact rfl; (with_reducible first | exact Imp.refl _ | (apply Imp.left; exact Imp.refl _) | (apply Imp.right; exact Imp.refl _) | (apply Imp.left; apply Imp.left; exact Imp.refl _))) | (apply EvC.now; exact rfl))); done) | exact ext_fix _ | (focus (repeat (first | apply List.Mem.head | apply List.Mem.tail | apply List.mem_append_right)))))); (simp only [List.set_cons_succ, List.set_cons_zero]; exact rfl)))
    refine wpT_nil ?_
    refine wpG_end hR (by kernel_rfl) ?_
    clear hR; intro w hR
    go_wp2_with fail
    go_ret2
    rw [HN.out]
    exact ⟨rfl, _, hR.drop (.cons_cons _ (List.sublist_cons_self _ _)), hS⟩
  · have HN := Lib.hid (show (toldR h s).2 = s by unfold toldR; rw [hi]; rfl)
    have HI := Lib.hid (show (encThr h).toList[0]? = some (.bool true) by rw [← hi]; rfl)
    clear hi
    go_enter Try.func52, Try.ntmps52
    go_upto_region 3 with (first
    | ((with_reducible apply wpList_box hR); exact rfl; exact rfl; clear hR; intro g3 w hR; simp only [List.set_cons_succ, List.set_cons_zero])
    | ((with_reducible apply q_ls hR); exact rfl; (with_reducible apply t_one tBoolF); (apply EvC.now; exact rfl); (focus (repeat (first | apply List.Mem.head | apply List.Mem.tail | apply List.mem_append_right))); exact HI.out; (simp only [List.set_cons_succ, List.set_cons_zero]; exact rfl); clear hR; intro w hR)
    | ((with_reducible apply q_ls hR); exact rfl; ((with_reducible first | apply t_addr (fFix _ (by decide)) | apply t_addr (fThs _ (by decide)) | apply t_addr (fThr _ (by decide)) | apply t_one tByteR | apply t_one tIntR | apply t_one tBoolF | apply t_one tWordF | apply t_part tFix) <;> (first | (apply EvC.gv; exact rfl; (with_reducible first | exact Imp.refl _ | (apply Imp.left; exact Imp.refl _) | (apply Imp.right; exact Imp.refl _) | (apply Imp.left; apply Imp.left; exact Imp.refl _))) | (apply EvC.now; exact rfl) | exact rfl | (with_reducible exact EvAll.nil) | (focus (repeat (first | apply EvAll.cons | exact EvAll.nil | (apply EvC.gv; exact rfl; (with_reducible first | exact Imp.refl _ | (apply Imp.left; exact Imp.refl _) | (apply Imp.right; exact Imp.refl _) | (apply Imp.left; apply Imp.left; exact Imp.refl _))) | (apply EvC.now; exact rfl))); done) | exact ext_fix _ | (focus (repeat (first | apply List.Mem.head | apply List.Mem.tail | apply List.mem_append_right))))); (simp only [List.set_cons_succ, List.set_cons_zero]; exact rfl); clear hR; intro w hR))
    refine wp_region_rows hR [0, 1, 2, 3, 4, 5] 0 (by kernel_rfl) (by kernel_rfl) (by kernel_rfl) rfl ?_
    clear hR; intro hR
    repeat (refine wpT_step rfl ?_; first
    | ((first | (with_reducible apply q_pl) | ((with_reducible apply q_gd); (first | (apply GdBy.gt; exact rfl; exact rfl) | (apply GdBy.gf; exact rfl; exact rfl) | (apply GdBy.t; exact rfl; exact rfl) | (apply GdBy.f; exact rfl; exact rfl)))); (first | ((with_reducible first | apply t_move | apply t_assign | apply t_and | apply t_or | apply t_cmp | apply t_not | apply t_addr (fFix _ (by decide)) | apply t_addr (fThs _ (by decide)) | apply t_addr (fThr _ (by decide)) | apply t_one tByteR | apply t_one tIntR | apply t_one tBoolF | apply t_one tWordF | apply t_part tFix) <;> (first | (apply EvC.gv; exact rfl; (with_reducible first | exact Imp.refl _ | (apply Imp.left; exact Imp.refl _) | (apply Imp.right; exact Imp.refl _) | (apply Imp.left; apply Imp.left; exact Imp.refl _))) | (apply EvC.now; exact rfl) | exact rfl | (with_reducible exact EvAll.nil) | (focus (repeat (first | apply EvAll.cons | exact EvAll.nil | (apply EvC.gv; exact rfl; (with_reducible first | exact Imp.refl _ | (apply Imp.left; exact Imp.refl _) | (apply Imp.right; exact Imp.refl _) | (apply Imp.left; apply Imp.left; exact Imp.refl _))) | (apply EvC.now; exact rfl))); done) | exact ext_fix _ | (focus (repeat (first | apply List.Mem.head | apply List.Mem.tail | apply List.mem_append_right)))))); (simp only [List.set_cons_succ, List.set_cons_zero]; exact rfl)))
    refine wpT_nil ?_
    refine wpG_end hR (by kernel_rfl) ?_
    clear hR; intro w hR
    go_wp2_with fail
    go_ret2
    rw [HN.out]
    exact ⟨rfl, _, hR.drop (List.sublist_cons_self _ _), hS⟩
theorem frameR_eq {c : Int} (h : ¬ 128 ≤ c) (h0 : 0 ≤ c) (t : ThsZ) (s : SrcZ) : frameR c t s = ((c / 16 % 8, (numberR (c / 16 % 8) s).1), (numberR (c / 16 % 8) s).2) := by
  unfold frameR numberR
  rw [if_neg h]
  split
  · rw [if_pos (by omega)]
  · rw [if_neg (by omega)]
theorem fixFrame2_any (hO : Own w0 w l) (hd : Les [(g, cs, 76)] l X) (hY : ∀ r ∈ sr, r ∈ X) (hS : SrcObj w0 sr cs s) (hok : s.ok) (hl : s.b.length ≤ 1000000) (c : Int) (h0 : 0 ≤ c) (h1 : c ≤ 255) (t : ThsZ) (ht : t.ok) : Calls Try.prog 43 #[.pointer (some ⟨g, 0, none⟩), .int .u8 c, .agg (enc4 t.fr)] w fun e w' => e = .returned (.tuple #[.int .i64 (frameR c t s).1.1, .int .i64 (frameR c t s).1.2]) ∧ ThenS w0 g X sr (frameR c t s).2 w' := by
  have hR : Own w0 w ((g, cs, 76) :: X) := hO.les hd
  clear hO hd
  obtain ⟨q, hq⟩ : ∃ q, c / 16 = q := ⟨_, rfl⟩
  have H4 := Lib.hid (show c / 2 ^ 4 = q from hq)
  by_cases hc : 128 ≤ c
  · have HB := Lib.hid (show bits .and .u8 c 128 = 128 by rw [fx128 h0 h1]; omega)
    obtain ⟨j, hj⟩ : ∃ j, q % 4 = j := ⟨_, rfl⟩
    have HJ := Lib.hid (show bits .and .u8 q 3 = j by rw [fx3 (by omega) (by omega)]; exact hj)
    obtain ⟨x, hx⟩ : ∃ x, t.fr.getD j.toNat thr0 = x := ⟨_, rfl⟩
    have HX := Lib.hid (show ExtRel (enc4 t.fr) (0 + j.toNat * 3) 3 (encThr x) by rw [← hx]; exact ext_4 ht.fr (by omega) (by omega))
    have HF := Lib.hid (show frameR c t s = toldR x s by unfold frameR; rw [if_pos hc, hq, hj, hx])
    have hj0 : 0 ≤ j ∧ j < 4 := by omega
    clear hq hj hx hc
    go_enter Try.func43, Try.ntmps43
    go_wp2_with (first
    | ((with_reducible apply wpList_box hR); exact rfl; exact rfl; clear hR; intro g5 w hR; simp only [List.set_cons_succ, List.set_cons_zero])
    | ((with_reducible apply q_ls hR); exact rfl; (with_reducible apply t_shrE (k := 4)); (apply EvC.now; exact rfl); (apply EvC.now; exact rfl); exact rfl; (decide); exact H4.out; (simp only [List.set_cons_succ, List.set_cons_zero]; exact rfl); clear hR; intro w hR)
    | ((with_reducible apply q_ls hR); exact rfl; (with_reducible apply t_numE); (apply EvC.now; exact rfl); (apply EvC.now; exact rfl); exact rfl; (with_reducible (first | exact HB.out | exact HJ.out)); (simp only [List.set_cons_succ, List.set_cons_zero]; exact rfl); clear hR; intro w hR)
    | ((with_reducible apply q_ls hR); exact rfl; (with_reducible apply t_pixK Try.underlying40 iThr); (apply EvC.now; exact rfl); (apply EvC.now; exact rfl); exact hj0; (simp only [List.set_cons_succ, List.set_cons_zero]; exact rfl); clear hR; intro w hR)
    | ((with_reducible apply q_ls hR); exact rfl; (with_reducible apply t_part tThr); (apply EvC.now; exact rfl); (focus (repeat (first | apply List.Mem.head | apply List.Mem.tail | apply List.mem_append_right))); exact HX.out; exact rfl; (simp only [List.set_cons_succ, List.set_cons_zero]; exact rfl); clear hR; intro w hR)
    | (go_at_call 52; refine (fixMeant_any hR (Les.tail Les.one) (fun r hr => .tail _ (hY r hr)) hS hok hl x).mono ?_; rintro e w' ⟨rfl, cs2, hR2, hS2⟩; clear hR hS; have hR := hR2; have hS := hS2; clear hR2 hS2)
    | ((with_reducible apply q_ls hR); exact rfl; ((with_reducible first | apply t_addr (fFix _ (by decide)) | apply t_addr (fThs _ (by decide)) | apply t_addr (fThr _ (by decide)) | apply t_one tByteR | apply t_one tIntR | apply t_one tBoolF | apply t_one tWordF | apply t_part tFix) <;> (first | (apply EvC.gv; exact rfl; (with_reducible first | exact Imp.refl _ | (apply Imp.left; exact Imp.refl _) | (apply Imp.right; exact Imp.refl _) | (apply Imp.left; apply Imp.left; exact Imp.refl _))) | (apply EvC.now; exact rfl) | exact rfl | (with_reducible exact EvAll.nil) | (focus (repeat (first | apply EvAll.cons | exact EvAll.nil | (apply EvC.gv; exact rfl; (with_reducible first | exact Imp.refl _ | (apply Imp.left; exact Imp.refl _) | (apply Imp.right; exact Imp.refl _) | (apply Imp.left; apply Imp.left; exact Imp.refl _))) | (apply EvC.now; exact rfl))); done) | exact ext_fix _ | (focus (repeat (first | apply List.Mem.head | apply List.Mem.tail | apply List.mem_append_right))))); (simp only [List.set_cons_succ, List.set_cons_zero]; exact rfl); clear hR; intro w hR))
    go_ret2
    rw [HF.out]
    exact ⟨rfl, _, hR.drop (.cons_cons _ (List.sublist_cons_self _ _)), hS⟩
  · have HB := Lib.hid (show bits .and .u8 c 128 = 0 by rw [fx128 h0 h1]; omega)
    obtain ⟨j, hj⟩ : ∃ j, q % 8 = j := ⟨_, rfl⟩
    have HJ := Lib.hid (show bits .and .u8 q 7 = j by rw [fx7 (by omega) (by omega)]; exact hj)
    have HC := Lib.hid (show IntKind.i64.wrap j = j from IntWalk.i64_in _ (by omega))
    have HF := Lib.hid (show frameR c t s = ((j, (numberR j s).1), (numberR j s).2) by rw [frameR_eq hc h0, hq, hj])
    clear hq hj hc
    go_enter Try.func43, Try.ntmps43
    go_wp2_with (first
    | ((with_reducible apply wpList_box hR); exact rfl; exact rfl; clear hR; intro g5 w hR; simp only [List.set_cons_succ, List.set_cons_zero])
    | ((with_reducible apply q_ls hR); exact rfl; (with_reducible apply t_shrE (k := 4)); (apply EvC.now; exact rfl); (apply EvC.now; exact rfl); exact rfl; (decide); exact H4.out; (simp only [List.set_cons_succ, List.set_cons_zero]; exact rfl); clear hR; intro w hR)
    | ((with_reducible apply q_ls hR); exact rfl; (with_reducible apply t_numE); (apply EvC.now; exact rfl); (apply EvC.now; exact rfl); exact rfl; (with_reducible (first | exact HB.out | exact HJ.out)); (simp only [List.set_cons_succ, List.set_cons_zero]; exact rfl); clear hR; intro w hR)
    | ((with_reducible apply q_ls hR); exact rfl; (with_reducible apply t_conv Try.underlying5 Try.underlying3); (apply EvC.now; exact rfl); (with_reducible (exact HC.out)); (simp only [List.set_cons_succ, List.set_cons_zero]; exact rfl); clear hR; intro w hR)
    | (go_at_call 42; refine (fixNumber_any hR (Les.tail Les.one) (fun r hr => .tail _ (hY r hr)) hS hok hl j).mono ?_; rintro e w' ⟨rfl, cs2, hR2, hS2⟩; clear hR hS; have hR := hR2; have hS := hS2; clear hR2 hS2)
    | ((with_reducible apply q_ls hR); exact rfl; ((with_reducible first | apply t_addr (fFix _ (by decide)) | apply t_addr (fThs _ (by decide)) | apply t_addr (fThr _ (by decide)) | apply t_one tByteR | apply t_one tIntR | apply t_one tBoolF | apply t_one tWordF | apply t_part tFix) <;> (first | (apply EvC.gv; exact rfl; (with_reducible first | exact Imp.refl _ | (apply Imp.left; exact Imp.refl _) | (apply Imp.right; exact Imp.refl _) | (apply Imp.left; apply Imp.left; exact Imp.refl _))) | (apply EvC.now; exact rfl) | exact rfl | (with_reducible exact EvAll.nil) | (focus (repeat (first | apply EvAll.cons | exact EvAll.nil | (apply EvC.gv; exact rfl; (with_reducible first | exact Imp.refl _ | (apply Imp.left; exact Imp.refl _) | (apply Imp.right; exact Imp.refl _) | (apply Imp.left; apply Imp.left; exact Imp.refl _))) | (apply EvC.now; exact rfl))); done) | exact ext_fix _ | (focus (repeat (first | apply List.Mem.head | apply List.Mem.tail | apply List.mem_append_right))))); (simp only [List.set_cons_succ, List.set_cons_zero]; exact rfl); clear hR; intro w hR))
    go_ret2
    rw [HF.out]
    exact ⟨rfl, _, hR.drop (.cons_cons _ (List.sublist_cons_self _ _)), hS⟩
theorem fixTarget_any (hO : Own w0 w l) (hd : Les [(g, cs, 76)] l X) (hY : ∀ r ∈ sr, r ∈ X) (hS : SrcObj w0 sr cs s) (hok : s.ok) (hl : s.b.length ≤ 1000000) (c : Int) (h0 : 0 ≤ c) (h1 : c ≤ 255) (t : ThsZ) (ht : t.ok) : Calls Try.prog 44 #[.pointer (some ⟨g, 0, none⟩), .int .u8 c, .agg (enc4 t.tg)] w fun e w' => e = .returned (.tuple #[.int .i64 (targetR c t s).1.1, .int .i64 (targetR c t s).1.2]) ∧ ThenS w0 g X sr (targetR c t s).2 w' := by
  have hR : Own w0 w ((g, cs, 76) :: X) := hO.les hd
  clear hO hd
  obtain ⟨j, hj⟩ : ∃ j, c % 4 = j := ⟨_, rfl⟩
  have HJ := Lib.hid (show bits .and .u8 c 3 = j by rw [fx3 h0 h1]; exact hj)
  have hj0 : 0 ≤ j ∧ j < 4 := by omega
  by_cases hc : c / 8 % 2 = 1
  · have HB := Lib.hid (show bits .and .u8 c 8 = 8 by rw [fx8 h0 h1]; omega)
    obtain ⟨x, hx⟩ : ∃ x, t.tg.getD j.toNat thr0 = x := ⟨_, rfl⟩
    have HX := Lib.hid (show ExtRel (enc4 t.tg) (0 + j.toNat * 3) 3 (encThr x) by rw [← hx]; exact ext_4 ht.tg (by omega) (by omega))
    have HF := Lib.hid (show targetR c t s = toldR x s by unfold targetR; rw [if_pos hc, hj, hx])
    clear hj hx hc
    go_enter Try.func44, Try.ntmps44
    go_wp2_with (first
    | ((with_reducible apply wpList_box hR); exact rfl; exact rfl; clear hR; intro g5 w hR; simp only [List.set_cons_succ, List.set_cons_zero])
    | ((with_reducible apply q_ls hR); exact rfl; (with_reducible apply t_numE); (apply EvC.now; exact rfl); (apply EvC.now; exact rfl); exact rfl; (with_reducible (first | exact HB.out | exact HJ.out)); (simp only [List.set_cons_succ, List.set_cons_zero]; exact rfl); clear hR; intro w hR)
    | ((with_reducible apply q_ls hR); exact rfl; (with_reducible apply t_pixK Try.underlying40 iThr); (apply EvC.now; exact rfl); (apply EvC.now; exact rfl); exact hj0; (simp only [List.set_cons_succ, List.set_cons_zero]; exact rfl); clear hR; intro w hR)
    | ((with_reducible apply q_ls hR); exact rfl; (with_reducible apply t_part tThr); (apply EvC.now; exact rfl); (focus (repeat (first | apply List.Mem.head | apply List.Mem.tail | apply List.mem_append_right))); exact HX.out; exact rfl; (simp only [List.set_cons_succ, List.set_cons_zero]; exact rfl); clear hR; intro w hR)
    | (go_at_call 52; refine (fixMeant_any hR (Les.tail Les.one) (fun r hr => .tail _ (hY r hr)) hS hok hl x).mono ?_; rintro e w' ⟨rfl, cs2, hR2, hS2⟩; clear hR hS; have hR := hR2; have hS := hS2; clear hR2 hS2)
    | ((with_reducible apply q_ls hR); exact rfl; ((with_reducible first | apply t_addr (fFix _ (by decide)) | apply t_addr (fThs _ (by decide)) | apply t_addr (fThr _ (by decide)) | apply t_one tByteR | apply t_one tIntR | apply t_one tBoolF | apply t_one tWordF | apply t_part tFix) <;> (first | (apply EvC.gv; exact rfl; (with_reducible first | exact Imp.refl _ | (apply Imp.left; exact Imp.refl _) | (apply Imp.right; exact Imp.refl _) | (apply Imp.left; apply Imp.left; exact Imp.refl _))) | (apply EvC.now; exact rfl) | exact rfl | (with_reducible exact EvAll.nil) | (focus (repeat (first | apply EvAll.cons | exact EvAll.nil | (apply EvC.gv; exact rfl; (with_reducible first | exact Imp.refl _ | (apply Imp.left; exact Imp.refl _) | (apply Imp.right; exact Imp.refl _) | (apply Imp.left; apply Imp.left; exact Imp.refl _))) | (apply EvC.now; exact rfl))); done) | exact ext_fix _ | (focus (repeat (first | apply List.Mem.head | apply List.Mem.tail | apply List.mem_append_right))))); (simp only [List.set_cons_succ, List.set_cons_zero]; exact rfl); clear hR; intro w hR))
    go_ret2
    rw [HF.out]
    exact ⟨rfl, _, hR.drop (.cons_cons _ (List.sublist_cons_self _ _)), hS⟩
  · have HB := Lib.hid (show bits .and .u8 c 8 = 0 by rw [fx8 h0 h1]; omega)
    have HC := Lib.hid (show IntKind.i64.wrap j = j from IntWalk.i64_in _ (by omega))
    have HF := Lib.hid (show targetR c t s = ((j, (indexZ s).1), (indexZ s).2) by unfold targetR; rw [if_neg hc, hj])
    clear hj hc
    go_enter Try.func44, Try.ntmps44
    go_wp2_with (first
    | ((with_reducible apply wpList_box hR); exact rfl; exact rfl; clear hR; intro g5 w hR; simp only [List.set_cons_succ, List.set_cons_zero])
    | ((with_reducible apply q_ls hR); exact rfl; (with_reducible apply t_numE); (apply EvC.now; exact rfl); (apply EvC.now; exact rfl); exact rfl; (with_reducible (first | exact HB.out | exact HJ.out)); (simp only [List.set_cons_succ, List.set_cons_zero]; exact rfl); clear hR; intro w hR)
    | ((with_reducible apply q_ls hR); exact rfl; (with_reducible apply t_conv Try.underlying5 Try.underlying3); (apply EvC.now; exact rfl); (with_reducible (exact HC.out)); (simp only [List.set_cons_succ, List.set_cons_zero]; exact rfl); clear hR; intro w hR)
    | (go_at_call 51; refine (indexX_any hR (Les.tail Les.one) (fun r hr => .tail _ (hY r hr)) hS hok hl).mono ?_; rintro e w' ⟨rfl, cs2, hR2, hS2⟩; clear hR hS; have hR := hR2; have hS := hS2; clear hR2 hS2)
    | ((with_reducible apply q_ls hR); exact rfl; ((with_reducible first | apply t_addr (fFix _ (by decide)) | apply t_addr (fThs _ (by decide)) | apply t_addr (fThr _ (by decide)) | apply t_one tByteR | apply t_one tIntR | apply t_one tBoolF | apply t_one tWordF | apply t_part tFix) <;> (first | (apply EvC.gv; exact rfl; (with_reducible first | exact Imp.refl _ | (apply Imp.left; exact Imp.refl _) | (apply Imp.right; exact Imp.refl _) | (apply Imp.left; apply Imp.left; exact Imp.refl _))) | (apply EvC.now; exact rfl) | exact rfl | (with_reducible exact EvAll.nil) | (focus (repeat (first | apply EvAll.cons | exact EvAll.nil | (apply EvC.gv; exact rfl; (with_reducible first | exact Imp.refl _ | (apply Imp.left; exact Imp.refl _) | (apply Imp.right; exact Imp.refl _) | (apply Imp.left; apply Imp.left; exact Imp.refl _))) | (apply EvC.now; exact rfl))); done) | exact ext_fix _ | (focus (repeat (first | apply List.Mem.head | apply List.Mem.tail | apply List.mem_append_right))))); (simp only [List.set_cons_succ, List.set_cons_zero]; exact rfl); clear hR; intro w hR))
    go_ret2
    rw [HF.out]
    exact ⟨rfl, _, hR.drop (.cons_cons _ (List.sublist_cons_self _ _)), hS⟩
end
end Go.Proofs.Ytimciiaajlfkoaa
