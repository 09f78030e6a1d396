








/- 'awake' of hansomlaw21, over the contracts of package segs. No statement of the seat is proved here. -/
import Derived.Test.YtmdiemebfmnmkaaSeg
import Derived.Test.YtmdiemebfmnmkaaNear21
namespace Go.Proofs.Ytmdiemebfmnmkaa
open Go.ChangeShapes Go.WideShapes Go.ChangeAt Go.RowKit
set_option linter.unusedVariables false
set_option linter.unusedSimpArgs false

theorem segSeg_yes (s : SegZ) (ho : s.ok) (h : mayS s = true) (w : World) : Calls Try.prog 7 #[.agg (encSeg s)] w fun e w' => RetB w w' (fun v => .tuple #[.agg #[.int .u8 152, v], .bool true]) e (segB s) := by
  have := segSegment_any s ho w
  unfold segP at this
  rw [h] at this
  exact this
theorem segSeg_no (s : SegZ) (ho : s.ok) (h : mayS s = false) (w : World) : Calls Try.prog 7 #[.agg (encSeg s)] w fun e w' => RetB w w' (fun v => .tuple #[.agg #[.int .u8 0, v], .bool false]) e [] := by
  have := segSegment_any s ho w
  unfold segP at this
  rw [h] at this
  exact this
theorem segDef_back {w : World} {v : Value} {s : SegZ} (h : SrcW w v (segB s)) (hm : MayS s) (ho : s.ok) :
    Calls Try.prog 11 #[v] w fun e w' => e = .returned (.tuple #[.agg (encSeg s), .int .i64 0]) ∧ Below w.heap.size w w' := by
  have hl := (segB_len s).2
  refine (segDef_any h (by omega)).mono ?_
  rintro e w' ⟨d, x, rfl, hb, h2⟩
  rw [seg_back hm ho] at h2
  rcases h2 with ⟨h3, rfl⟩ | ⟨h3, _⟩
  · obtain rfl := Option.some.inj h3
    exact ⟨rfl, hb⟩
  · exact nomatch h3
def sA : SegZ := ⟨3, 2, 0, 0, 5, 2, 0, 0⟩
theorem sA_ok : sA.ok := by unfold SegZ.ok sA; dsimp only; omega
theorem sA_may : mayS sA = true := rfl
theorem sA_May : MayS sA := (mayS_iff sA).1 sA_may
theorem bA : Built Try.prog 24 [(0, .int .i64 3), (1, .int .i64 2), (4, .int .i64 5), (5, .int .i64 2)] (encSeg sA) := ⟨by kernel_rfl⟩
set_option maxHeartbeats 1000000 in
theorem awake21_any (w0 : World) :
    Calls Try.prog 8 #[] w0 fun e w' => e = .returned (.bool true) ∧ Below w0.heap.size w0 w' := by
  have hR := Own.start w0
  go_enter Try.func8, Try.ntmps8
  go_wp2_with (first
    | ((with_reducible apply wpList_built); exact rfl; exact rfl; exact bA; (simp only [List.set_cons_succ, List.set_cons_zero]; exact rfl)))
  refine (segSeg_yes sA sA_ok sA_may _).mono ?_
  rintro e w1 h1
  obtain ⟨v1, rfl, hb, hV⟩ := h1.now
  clear h1
  replace hR := hR.grow hb
  have hZ2 := (Since.start w0).own hR
  clear hR hb
  try clear hZ
  have hZ := hZ2
  clear hZ2
  have hR := Own.start w1
  go_upto_region 2 with (first
    | ((with_reducible apply wpList_make hR zRec); exact rfl; clear hR; intro g w hR; simp only [List.set_cons_succ, List.set_cons_zero])
    | ((with_reducible apply wpList_put hR tRec); exact rfl; exact rfl; exact rfl; (focus (repeat (first | apply List.Mem.head | apply List.Mem.tail | apply List.mem_append_right))); exact put_rec _ _ _ _; exact rfl; simp; exact one_rec _ hV; (focus (repeat (first | apply Upd.head | apply Upd.tail))); clear hR; intro w hR))
  go_wp2_with (first
    | ((with_reducible apply q_ls hR); exact rfl; ((with_reducible first | apply t_addr (fRec _ (by decide)) | apply t_addr (fSeg _ (by decide)) | apply t_one tByteR | apply t_one tSlR | apply t_one tIntR | apply t_one tWordS | apply t_part tSeg) <;> (first | (apply EvC.gv; exact rfl; (with_reducible first | exact Imp.refl _ | (apply Imp.left; exact Imp.refl _) | (apply Imp.right; exact Imp.refl _) | (apply Imp.left; apply Imp.left; exact Imp.refl _))) | (apply EvC.now; exact rfl) | exact rfl | (with_reducible exact EvAll.nil) | (focus (repeat (first | apply EvAll.cons | exact EvAll.nil | (apply EvC.gv; exact rfl; (with_reducible first | exact Imp.refl _ | (apply Imp.left; exact Imp.refl _) | (apply Imp.right; exact Imp.refl _) | (apply Imp.left; apply Imp.left; exact Imp.refl _))) | (apply EvC.now; exact rfl))); done) | exact ext_seg _ | (focus (repeat (first | apply List.Mem.head | apply List.Mem.tail | apply List.mem_append_right))))); (simp only [List.set_cons_succ, List.set_cons_zero]; exact rfl); clear hR; intro w hR))
  refine (segDef_back (hV.own hR) sA_May sA_ok).mono ?_
  rintro e w2 ⟨rfl, hb⟩
  replace hR := hR.grow hb
  clear hb
  go_wp2_with (first
    | ((with_reducible apply wpList_make hR zSeg); exact rfl; clear hR; intro g w hR; simp only [List.set_cons_succ, List.set_cons_zero])
    | ((with_reducible apply wpList_put hR tSeg); exact rfl; exact rfl; exact rfl; (focus (repeat (first | apply List.Mem.head | apply List.Mem.tail | apply List.mem_append_right))); exact put_seg _ _; exact rfl; simp [encSeg]; exact one_seg _; (focus (repeat (first | apply Upd.head | apply Upd.tail))); clear hR; intro w hR)
    | (go_at_call 16; refine (segStep_any 4 _).mono ?_; rw [show stepS 4 = 256 from rfl]; rintro e w' ⟨rfl, hb⟩; replace hR := hR.grow hb; clear hb)
    | ((with_reducible apply q_ls hR); exact rfl; ((with_reducible first | apply t_addr (fRec _ (by decide)) | apply t_addr (fSeg _ (by decide)) | apply t_one tByteR | apply t_one tSlR | apply t_one tIntR | apply t_one tWordS | apply t_part tSeg) <;> (first | (apply EvC.gv; exact rfl; (with_reducible first | exact Imp.refl _ | (apply Imp.left; exact Imp.refl _) | (apply Imp.right; exact Imp.refl _) | (apply Imp.left; apply Imp.left; exact Imp.refl _))) | (apply EvC.now; exact rfl) | exact rfl | (with_reducible exact EvAll.nil) | (focus (repeat (first | apply EvAll.cons | exact EvAll.nil | (apply EvC.gv; exact rfl; (with_reducible first | exact Imp.refl _ | (apply Imp.left; exact Imp.refl _) | (apply Imp.right; exact Imp.refl _) | (apply Imp.left; apply Imp.left; exact Imp.refl _))) | (apply EvC.now; exact rfl))); done) | exact ext_seg _ | (focus (repeat (first | apply List.Mem.head | apply List.Mem.tail | apply List.mem_append_right))))); (simp only [List.set_cons_succ, List.set_cons_zero]; exact rfl); clear hR; intro w hR))
  go_ret
  exact ⟨by simp [sA], (hZ.own hR).below⟩
end Go.Proofs.Ytmdiemebfmnmkaa
