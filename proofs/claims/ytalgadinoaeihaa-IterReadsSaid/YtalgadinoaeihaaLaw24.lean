








/- 'awake' of hansomlaw24, over the contracts of package iter. No statement of the seat is proved here. -/
import Derived.Test.YtalgadinoaeihaaItr
import Derived.Test.YtalgadinoaeihaaBlkN
import Derived.Test.YtalgadinoaeihaaStrs
namespace Go.Proofs.Ytalgadinoaeihaa
open Go.ChangeShapes Go.WideShapes Go.ChangeAt Go.RowKit
set_option linter.unusedVariables false
set_option linter.unusedSimpArgs false

theorem l120 : (⟨#[120, 120, 120, 120, 120, 120]⟩ : ByteArray) = strOfNums [120, 120, 120, 120, 120, 120] := rfl
def zA : BlkZ := .mk 2 [] [.mk 3 [120] []]
theorem zA_sp : spreadB zA = [120, 120, 120, 120, 120, 120] := rfl
theorem zA_ok : okSpread zA = true := rfl
theorem zA_dp : dpB 17 zA := by
  refine ⟨by decide, fun z hz => ?_⟩
  rw [List.mem_singleton.1 hz]
  exact ⟨by decide, fun _ h => nomatch h⟩
theorem itrSpread_yes {w : World} {d : BlkV} {z : BlkZ} (h : BlkAt w d z) (hf : dpB 17 z) (hl : (spreadB z).length ≤ 100000) (hk : okSpread z = true) :
    Calls Try.prog 8 #[.agg (encK d.t d.v d.x)] w fun e w' => RetB w w' (fun v => .tuple #[v, .bool true]) e (spreadB z) := by
  have := itrSpread_any h hf hl
  rw [hk] at this
  exact this
theorem itrSpread_no {w : World} {d : BlkV} {z : BlkZ} (h : BlkAt w d z) (hf : dpB 17 z) (hl : (spreadB z).length ≤ 100000) (hk : okSpread z = false) :
    Calls Try.prog 8 #[.agg (encK d.t d.v d.x)] w fun e w' => RetB w w' (fun v => .tuple #[v, .bool false]) e [] := by
  have := itrSpread_any h hf hl
  rw [hk] at this
  exact this
set_option maxHeartbeats 1000000 in
theorem awake24_any (w0 : World) :
    Calls Try.prog 9 #[] w0 fun e w' => e = .returned (.bool true) ∧ Below w0.heap.size w0 w' := by
  have hR := Own.start w0
  go_enter Try.func9, Try.ntmps9
  go_wp2_with (first
    | ((with_reducible apply wpList_buildS hR); exact rfl; exact rfl; (exact bB1 _); clear hR; intro g1 w hR; simp only [List.set_cons_succ, List.set_cons_zero])
    | ((with_reducible apply wpList_built); exact rfl; exact rfl; exact bKb _ ⟨⟨_, _, _, rfl⟩⟩; (simp only [List.set_cons_succ, List.set_cons_zero]; exact rfl))
    | ((with_reducible apply wpList_buildS hR); exact rfl; exact rfl; (exact bBlk1 _ ⟨⟨_, _, _, rfl⟩⟩ IsS.nil); clear hR; intro g2 w hR; simp only [List.set_cons_succ, List.set_cons_zero])
    | ((with_reducible apply wpList_built); exact rfl; exact rfl; exact bKx _ ⟨⟨_, _, _, rfl⟩⟩; (simp only [List.set_cons_succ, List.set_cons_zero]; exact rfl)))
  have h1 : BlkR [(g1, #[.int .u8 120], 5)] ⟨3, .slice (some ⟨g1, 0, none⟩) 1 1, nilS⟩ (.mk 3 [120] []) := BlkR.leaf (by decide) (fun wb w l hO hs => src_row (ns := [120]) hO (hs _ (.head _)) rfl (.cons (by decide) .nil) (by decide)) (by decide)
  have h2 : BlkR _ ⟨2, nilS, oneS g2⟩ zA := BlkR.one (g := g2) (by decide) h1 ⟨⟨_, _, _, rfl⟩⟩ IsS.nil
  refine (itrSpread_yes (d := ⟨2, nilS, oneS g2⟩) (h2 _ _ _ hR (fun r h => h)) zA_dp (by decide) zA_ok).mono ?_
  rintro e w1 h3
  obtain ⟨v1, rfl, hb, hV⟩ := h3.now
  clear h3 h1 h2
  rw [zA_sp] at hV
  have hS0 : Since w0 w1 := ⟨below_more (Below.refl _ w0) (hR.grow hb).below⟩
  clear hR hb
  have hR := Own.start w1
  have ok120 := hV.ok
  go_upto_region 2 with fail
  refine wp_region_tame hR [0, 1, 2, 3, 4, 5, 6] rfl ?_
  repeat (refine wpT_step rfl ?_; first
    | ((with_reducible apply q_kn); exact rfl; (with_reducible apply t_strW tTextN); (apply EvC.now; exact rfl); (exact fun w hC => hV.own hC); (simp only [List.set_cons_succ, List.set_cons_zero]; exact rfl))
    | ((with_reducible apply q_kn); exact rfl; (with_reducible apply t_eqN ok120 ok120); (apply EvC.now; exact rfl); exact lit_now l120; (simp only [List.set_cons_succ, List.set_cons_zero]; exact rfl))
    | ((with_reducible apply q_kn); exact rfl; (first | ((with_reducible first | apply t_move | apply t_assign | apply t_addr (fRec _ (by decide)) | apply t_addr (fBlk _ (by decide)) | apply t_one tByteR | apply t_one tSlR | apply t_one tIntR | apply t_one tBlks | apply t_part tBlk) <;> (first | (apply EvC.gv; exact rfl; (with_reducible first | exact Imp.refl _ | (apply Imp.left; exact Imp.refl _) | (apply Imp.right; exact Imp.refl _) | (apply Imp.left; apply Imp.left; exact Imp.refl _))) | (apply EvC.now; exact rfl) | exact rfl | (with_reducible exact EvAll.nil) | (focus (repeat (first | apply EvAll.cons | exact EvAll.nil | (apply EvC.gv; exact rfl; (with_reducible first | exact Imp.refl _ | (apply Imp.left; exact Imp.refl _) | (apply Imp.right; exact Imp.refl _) | (apply Imp.left; apply Imp.left; exact Imp.refl _))) | (apply EvC.now; exact rfl))); done) | exact ext_blk _ _ _ | (focus (repeat (first | apply List.Mem.head | apply List.Mem.tail | apply List.mem_append_right))))) | ((with_reducible apply t_pick); (apply EvC.now; exact rfl); (apply EvC.now; exact rfl))); (simp only [List.set_cons_succ, List.set_cons_zero]; exact rfl)))
  refine wpT_nil ?_
  clear hR; intro w hR
  go_wp2_with fail
  go_ret
  exact ⟨by simp, (hS0.own hR).below⟩
end Go.Proofs.Ytalgadinoaeihaa
