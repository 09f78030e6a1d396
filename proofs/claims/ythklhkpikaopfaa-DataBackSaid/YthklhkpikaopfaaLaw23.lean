








/- 'awake' of hansomlaw23, over the contracts of package data. No statement of the seat is proved here. -/
import Derived.Test.YthklhkpikaopfaaDatC
import Derived.Test.YthklhkpikaopfaaR18
import Derived.Test.YthklhkpikaopfaaStrs
namespace Go.Proofs.Ythklhkpikaopfaa
open Go.ChangeShapes Go.WideShapes Go.ChangeAt Go.RowKit
set_option linter.unusedVariables false
set_option linter.unusedSimpArgs false

theorem datPut_yes (d : DatZ) {w : World} {v x : Value} (ho : d.ok) (hS : SrcW w v d.b) (hl : d.b.length ≤ maxLen) (hx : IsSl x) (h : mayD d = true) :
    Calls Try.prog 6 #[.agg (encD d.s d.o v x)] w fun e w' => RetB w w' (fun v => .tuple #[.agg #[.int .u8 160, v], .bool true]) e (datB d) := by
  have := datPut_any d ho hS hl hx
  rw [h] at this
  exact this
theorem datPut_no (d : DatZ) {w : World} {v x : Value} (ho : d.ok) (hS : SrcW w v d.b) (hl : d.b.length ≤ maxLen) (hx : IsSl x) (h : mayD d = false) :
    Calls Try.prog 6 #[.agg (encD d.s d.o v x)] w fun e w' => RetB w w' (fun v => .tuple #[.agg #[.int .u8 0, v], .bool false]) e [] := by
  have := datPut_any d ho hS hl hx
  rw [h] at this
  exact this
theorem datGet_any {w : World} {v : Value} {bs : List Int} (h : SrcW w v bs) (hl : bs.length ≤ 1000000) :
    Calls Try.prog 9 #[v] w fun e w' => ∃ v', e = .returned (.tuple #[.agg (encD (datR bs).1.s (datR bs).1.o v' nilV), .int .i64 (datR bs).2]) ∧ Below w.heap.size w w' ∧ SrcW w' v' (datR bs).1.b := by
  refine (datGet_al h hl).mono ?_
  rintro e w' ⟨s, v', rfl, hO, hA⟩
  exact ⟨v', rfl, hO.below, hA _ _ _ hO (fun _ h => h) (h.keep hO.below)⟩
theorem datGet_alb {w : World} {v : Value} {d : DatZ} (h : SrcW w v (datB d)) (hm : MayD d) (ho : d.o ≤ 65535) :
    Calls Try.prog 9 #[v] w fun e w' => ∃ s v', e = .returned (.tuple #[.agg (encD d.s d.o v' nilV), .int .i64 0]) ∧ Own w w' s ∧ Along s v (datB d) v' d.b := by
  have hl := (datB_len d).2
  have hn := hm.n.2
  have := datGet_al h (by omega)
  rw [dat_back hm ho] at this
  exact this
theorem datGet_back {w : World} {v : Value} {d : DatZ} (h : SrcW w v (datB d)) (hm : MayD d) (ho : d.o ≤ 65535) :
    Calls Try.prog 9 #[v] w fun e w' => ∃ v', e = .returned (.tuple #[.agg (encD d.s d.o v' nilV), .int .i64 0]) ∧ Below w.heap.size w w' ∧ SrcW w' v' d.b := by
  have hl := (datB_len d).2
  have hn := hm.n.2
  have := datGet_any h (by omega)
  rw [dat_back hm ho] at this
  exact this
def dA : DatZ := ⟨1, 5, [7]⟩
theorem dA_may : mayD dA = true := rfl
theorem dA_May : MayD dA := (mayD_iff dA).1 dA_may
theorem dA_ok : dA.ok := ⟨by decide, by decide, .cons (by decide) .nil⟩
def dO : DatZ := ⟨1, 0, []⟩
theorem dO_no : mayD dO = false := rfl
theorem dO_ok : dO.ok := ⟨by decide, by decide, .nil⟩
theorem datMay_none (w : World) : Calls Try.prog 8 #[.agg (encD 1 0 nilV nilV)] w fun e w' => e = .returned (.bool false) ∧ Below w.heap.size w w' :=
  datMay_any dO dO_ok (SrcW.none w) (by decide) IsSl.nil
set_option maxHeartbeats 1000000 in
theorem awake23_any (w0 : World) :
    Calls Try.prog 7 #[] w0 fun e w' => e = .returned (.bool true) ∧ Below w0.heap.size w0 w' := by
  have hR := Own.start w0
  go_enter Try.func7, Try.ntmps7
  go_wp2_with (first
    | ((with_reducible apply wpList_buildS hR); exact rfl; exact rfl; (exact bB1 _); clear hR; intro g6 w hR; simp only [List.set_cons_succ, List.set_cons_zero]; (have hS6 := src_row (ns := [7]) hR (.head _) rfl (.cons (by decide) .nil) (by decide)))
    | ((with_reducible apply wpList_built); exact rfl; exact rfl; exact bD3 _ _; (simp only [List.set_cons_succ, List.set_cons_zero]; exact rfl)))
  refine (datPut_yes dA (x := nilV) dA_ok hS6 (by decide) IsSl.nil dA_may).mono ?_
  rintro e w1 h1
  obtain ⟨v1, rfl, hb, hV⟩ := h1.now
  clear h1 hS6
  replace hR := hR.grow hb
  have hZ2 := (Since.start w0).own hR
  clear hR hb
  try clear hZ
  have hZ := hZ2
  clear hZ2
  have hR := Own.start w1
  go_upto_region 2 with (first
    | ((with_reducible apply wpList_make hR zRec); exact rfl; clear hR; intro g w hR; simp only [List.set_cons_succ, List.set_cons_zero])
    | ((with_reducible apply wpList_put hR tRec); exact rfl; exact rfl; exact rfl; (focus (repeat (first | apply List.Mem.head | apply List.Mem.tail | apply List.mem_append_right))); exact put_rec _ _ _ _; exact rfl; simp; exact one_rec _ hV; (focus (repeat (first | apply Upd.head | apply Upd.tail))); clear hR; intro w hR))
  go_wp2_with (first
    | ((with_reducible apply q_ls hR); exact rfl; ((with_reducible first | apply t_addr (fRec _ (by decide)) | apply t_addr (fDat _ (by decide)) | apply t_one tByteR | apply t_one tSlR | apply t_one tIntR | apply t_one tWordD | apply t_one tFixD | apply t_part tDat) <;> (first | (apply EvC.gv; exact rfl; (with_reducible first | exact Imp.refl _ | (apply Imp.left; exact Imp.refl _) | (apply Imp.right; exact Imp.refl _) | (apply Imp.left; apply Imp.left; exact Imp.refl _))) | (apply EvC.now; exact rfl) | exact rfl | (with_reducible exact EvAll.nil) | (focus (repeat (first | apply EvAll.cons | exact EvAll.nil | (apply EvC.gv; exact rfl; (with_reducible first | exact Imp.refl _ | (apply Imp.left; exact Imp.refl _) | (apply Imp.right; exact Imp.refl _) | (apply Imp.left; apply Imp.left; exact Imp.refl _))) | (apply EvC.now; exact rfl))); done) | exact ext_dat _ _ _ | (focus (repeat (first | apply List.Mem.head | apply List.Mem.tail | apply List.mem_append_right))))); (simp only [List.set_cons_succ, List.set_cons_zero]; exact rfl); clear hR; intro w hR))
  refine (datGet_back (d := dA) (hV.own hR) dA_May (by decide)).mono ?_
  rintro e w2 ⟨v2, rfl, hb, hV2⟩
  replace hR := hR.grow hb
  clear hb
  go_upto_region 3 with (first
    | ((with_reducible apply wpList_make hR zDat); exact rfl; clear hR; intro g w hR; simp only [List.set_cons_succ, List.set_cons_zero])
    | ((with_reducible apply wpList_put hR tDat); exact rfl; exact rfl; exact rfl; (focus (repeat (first | apply List.Mem.head | apply List.Mem.tail | apply List.mem_append_right))); exact put_dat _ rfl _ _ _ _; exact rfl; simp [encD]; exact one_dat _ _ hV2.isSl IsSl.nil; (focus (repeat (first | apply Upd.head | apply Upd.tail))); clear hR; intro w hR))
  refine wp_region_tame hR [0, 1, 2, 3, 4, 5, 6, 7, 8, 9, 10, 11, 12, 13, 14, 15, 16, 17, 18, 19, 20, 21] rfl ?_
  repeat (refine wpT_step rfl ?_; first
    | ((with_reducible apply q_kn); exact rfl; (with_reducible apply t_call Try.call8); (first | (apply EvC.gv; exact rfl; (with_reducible first | exact Imp.refl _ | (apply Imp.left; exact Imp.refl _) | (apply Imp.right; exact Imp.refl _) | (apply Imp.left; apply Imp.left; exact Imp.refl _))) | (apply EvC.now; exact rfl) | exact rfl | (with_reducible exact EvAll.nil) | (focus (repeat (first | apply EvAll.cons | exact EvAll.nil | (apply EvC.gv; exact rfl; (with_reducible first | exact Imp.refl _ | (apply Imp.left; exact Imp.refl _) | (apply Imp.right; exact Imp.refl _) | (apply Imp.left; apply Imp.left; exact Imp.refl _))) | (apply EvC.now; exact rfl))); done) | exact ext_dat _ _ _ | (focus (repeat (first | apply List.Mem.head | apply List.Mem.tail | apply List.mem_append_right)))); (intro hcc w hC; exact tame_below (datMay_none _) hC); (simp only [List.set_cons_succ, List.set_cons_zero]; exact rfl))
    | ((with_reducible apply q_kn); exact rfl; (with_reducible apply t_built); exact rfl; exact bD1 _; (simp only [List.set_cons_succ, List.set_cons_zero]; exact rfl))
    | ((with_reducible apply q_kn); exact rfl; (with_reducible apply t_not); (apply EvC.now; exact rfl); (simp only [List.set_cons_succ, List.set_cons_zero]; exact rfl))
    | ((with_reducible apply q_kn); exact rfl; (with_reducible apply t_cmp); (apply EvC.now; exact rfl); (apply EvC.now; exact rfl); exact rfl; (simp only [List.set_cons_succ, List.set_cons_zero]; exact rfl))
    | ((with_reducible apply q_kn); exact rfl; (with_reducible apply t_lenW Try.underlying23); (apply EvC.now; exact rfl); exact hV2; (simp only [List.set_cons_succ, List.set_cons_zero]; exact rfl))
    | ((with_reducible apply q_kn); exact rfl; ((with_reducible first | apply t_addr (fRec _ (by decide)) | apply t_addr (fDat _ (by decide)) | apply t_one tByteR | apply t_one tSlR | apply t_one tIntR | apply t_one tWordD | apply t_one tFixD | apply t_part tDat) <;> (first | (apply EvC.gv; exact rfl; (with_reducible first | exact Imp.refl _ | (apply Imp.left; exact Imp.refl _) | (apply Imp.right; exact Imp.refl _) | (apply Imp.left; apply Imp.left; exact Imp.refl _))) | (apply EvC.now; exact rfl) | exact rfl | (with_reducible exact EvAll.nil) | (focus (repeat (first | apply EvAll.cons | exact EvAll.nil | (apply EvC.gv; exact rfl; (with_reducible first | exact Imp.refl _ | (apply Imp.left; exact Imp.refl _) | (apply Imp.right; exact Imp.refl _) | (apply Imp.left; apply Imp.left; exact Imp.refl _))) | (apply EvC.now; exact rfl))); done) | exact ext_dat _ _ _ | (focus (repeat (first | apply List.Mem.head | apply List.Mem.tail | apply List.mem_append_right))))); (simp only [List.set_cons_succ, List.set_cons_zero]; exact rfl))
    | ((with_reducible apply q_kn); exact rfl; (first | ((with_reducible first | apply t_move | apply t_assign | apply t_addr (fRec _ (by decide)) | apply t_addr (fDat _ (by decide)) | apply t_one tByteR | apply t_one tSlR | apply t_one tIntR | apply t_one tWordD | apply t_one tFixD | apply t_part tDat) <;> (first | (apply EvC.gv; exact rfl; (with_reducible first | exact Imp.refl _ | (apply Imp.left; exact Imp.refl _) | (apply Imp.right; exact Imp.refl _) | (apply Imp.left; apply Imp.left; exact Imp.refl _))) | (apply EvC.now; exact rfl) | exact rfl | (with_reducible exact EvAll.nil) | (focus (repeat (first | apply EvAll.cons | exact EvAll.nil | (apply EvC.gv; exact rfl; (with_reducible first | exact Imp.refl _ | (apply Imp.left; exact Imp.refl _) | (apply Imp.right; exact Imp.refl _) | (apply Imp.left; apply Imp.left; exact Imp.refl _))) | (apply EvC.now; exact rfl))); done) | exact ext_dat _ _ _ | (focus (repeat (first | apply List.Mem.head | apply List.Mem.tail | apply List.mem_append_right))))) | ((with_reducible apply t_pick); (apply EvC.now; exact rfl); (apply EvC.now; exact rfl))); (simp only [List.set_cons_succ, List.set_cons_zero]; exact rfl)))
  refine wpT_nil ?_
  clear hR; intro w hR
  go_wp2_with fail
  go_ret
  exact ⟨rfl, (hZ.own hR).below⟩
end Go.Proofs.Ythklhkpikaopfaa
