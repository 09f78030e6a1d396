






/- The contracts of package index, sources: what is read of one leaves all blocks as they lay but the source's own. No statement of the seat is proved here. -/
import Derived.Test.YtalgadinoaeihaaIdx
import Derived.Test.YtalgadinoaeihaaKeep
namespace Go.Proofs.Ytalgadinoaeihaa
open Go.ChangeShapes Go.WideShapes Go.ChangeAt Go.RowKit
set_option linter.unusedVariables false
set_option linter.unusedSimpArgs false

section
variable {w0 w : World} {l X sr : List RowT} {g : Nat} {cs : Array Value} {s : SrcZ}
theorem wrongK_any (hO : Own w0 w l) (hd : Les [(g, cs, 69)] l X) (hY : ∀ r ∈ sr, r ∈ X) (hS : SrcObj w0 sr cs s) (hok : s.ok) (x : Int) (hx : x ≠ 0) (h0 : -9223372036854775808 ≤ x) (h1 : x ≤ 9223372036854775807) :
    Calls Try.prog 44 #[.pointer (some ⟨g, 0, none⟩), .int .i64 x] w fun e w' => e = .returned (.tuple #[]) ∧ ThenS w0 g X sr (wrongZ s x) w' ∧ Apart w w' [g] := by
  have hR : Own w0 w ((g, cs, 69) :: X) := hO.les hd
  have hA := Apart.refl w [g]
  clear hO hd
  have HX := Lib.hid (show cmpB .eql x 0 = some false by simp [cmpB, hx])
  by_cases he : s.e = 0
  · have HE := Lib.hid (show cmpB .neq s.e 0 = some false by simp [cmpB, he])
    have HW := Lib.hid (show wrongZ s x = ⟨[], x⟩ from if_pos he)
    clear he
    go_enter Try.func44, Try.ntmps44
    go_upto_region 0 with fail
    refine wp_region_tameK hR hA [0, 1, 2, 3, 4, 5, 6] rfl ?_
    repeat (refine wpT_step rfl ?_; first
    | ((first | (with_reducible apply q_pl) | ((with_reducible apply q_gd); (first | (apply GdBy.gt; exact rfl; exact rfl) | (apply GdBy.gf; exact rfl; exact rfl) | (apply GdBy.t; exact rfl; exact rfl) | (apply GdBy.f; exact rfl; exact rfl)))); (with_reducible apply t_call Try.call32); (first | (apply EvC.gv; exact rfl; (with_reducible first | exact Imp.refl _ | (apply Imp.left; exact Imp.refl _) | (apply Imp.right; exact Imp.refl _) | (apply Imp.left; apply Imp.left; exact Imp.refl _))) | (apply EvC.now; exact rfl) | exact rfl | (with_reducible exact EvAll.nil) | (focus (repeat (first | apply EvAll.cons | exact EvAll.nil | (apply EvC.gv; exact rfl; (with_reducible first | exact Imp.refl _ | (apply Imp.left; exact Imp.refl _) | (apply Imp.right; exact Imp.refl _) | (apply Imp.left; apply Imp.left; exact Imp.refl _))) | (apply EvC.now; exact rfl))); done) | exact rfl | (focus (repeat (first | apply List.Mem.head | apply List.Mem.tail | apply List.mem_append_right)))); (intro hcc w hC; exact tame_below (errX_any hC Les.one hY hS) hC); (simp only [List.set_cons_succ, List.set_cons_zero]; exact rfl))
    | ((first | (with_reducible apply q_pl) | ((with_reducible apply q_gd); (first | (apply GdBy.gt; exact rfl; exact rfl) | (apply GdBy.gf; exact rfl; exact rfl) | (apply GdBy.t; exact rfl; exact rfl) | (apply GdBy.f; exact rfl; exact rfl)))); (with_reducible apply t_cmp); (first | (apply EvC.gv; exact rfl; (with_reducible first | exact Imp.refl _ | (apply Imp.left; exact Imp.refl _) | (apply Imp.right; exact Imp.refl _) | (apply Imp.left; apply Imp.left; exact Imp.refl _))) | (apply EvC.now; exact rfl) | exact rfl | (with_reducible exact EvAll.nil) | (focus (repeat (first | apply EvAll.cons | exact EvAll.nil | (apply EvC.gv; exact rfl; (with_reducible first | exact Imp.refl _ | (apply Imp.left; exact Imp.refl _) | (apply Imp.right; exact Imp.refl _) | (apply Imp.left; apply Imp.left; exact Imp.refl _))) | (apply EvC.now; exact rfl))); done) | exact rfl | (focus (repeat (first | apply List.Mem.head | apply List.Mem.tail | apply List.mem_append_right)))); (first | (apply EvC.gv; exact rfl; (with_reducible first | exact Imp.refl _ | (apply Imp.left; exact Imp.refl _) | (apply Imp.right; exact Imp.refl _) | (apply Imp.left; apply Imp.left; exact Imp.refl _))) | (apply EvC.now; exact rfl) | exact rfl | (with_reducible exact EvAll.nil) | (focus (repeat (first | apply EvAll.cons | exact EvAll.nil | (apply EvC.gv; exact rfl; (with_reducible first | exact Imp.refl _ | (apply Imp.left; exact Imp.refl _) | (apply Imp.right; exact Imp.refl _) | (apply Imp.left; apply Imp.left; exact Imp.refl _))) | (apply EvC.now; exact rfl))); done) | exact rfl | (focus (repeat (first | apply List.Mem.head | apply List.Mem.tail | apply List.mem_append_right)))); (first | exact HE.out | exact HX.out); (simp only [List.set_cons_succ, List.set_cons_zero]; exact rfl))
    | ((first | (with_reducible apply q_pl) | ((with_reducible apply q_gd); (first | (apply GdBy.gt; exact rfl; exact rfl) | (apply GdBy.gf; exact rfl; exact rfl) | (apply GdBy.t; exact rfl; exact rfl) | (apply GdBy.f; exact rfl; exact rfl)))); (first | ((with_reducible first | apply t_move | apply t_assign | apply t_and | apply t_or | apply t_cmp | apply t_not | apply t_addr (fSrcI _ (by decide)) | apply t_one tSlI | apply t_one tErrI) <;> (first | (apply EvC.gv; exact rfl; (with_reducible first | exact Imp.refl _ | (apply Imp.left; exact Imp.refl _) | (apply Imp.right; exact Imp.refl _) | (apply Imp.left; apply Imp.left; exact Imp.refl _))) | (apply EvC.now; exact rfl) | exact rfl | (with_reducible exact EvAll.nil) | (focus (repeat (first | apply EvAll.cons | exact EvAll.nil | (apply EvC.gv; exact rfl; (with_reducible first | exact Imp.refl _ | (apply Imp.left; exact Imp.refl _) | (apply Imp.right; exact Imp.refl _) | (apply Imp.left; apply Imp.left; exact Imp.refl _))) | (apply EvC.now; exact rfl))); done) | exact rfl | (focus (repeat (first | apply List.Mem.head | apply List.Mem.tail | apply List.mem_append_right)))))); (simp only [List.set_cons_succ, List.set_cons_zero]; exact rfl)))
    refine wpT_nil ?_
    clear hR hA; intro wk hR hA
    obtain ⟨v, rfl, hv⟩ := hS.way
    go_wp2_with (first
    | ((with_reducible apply q_lsK hR hA); exact rfl; (with_reducible apply t_nilck); (apply EvC.now; exact rfl); (simp only [List.set_cons_succ, List.set_cons_zero]; exact rfl); clear hR hA; intro wk hR hA)
    | ((with_reducible apply wpList_put1A hR hA tSlI); exact rfl; exact rfl; exact rfl; (focus (repeat (first | apply List.Mem.head | apply List.Mem.tail | apply List.mem_append_right))); (exact put_rest _ _ _); (simp); exact rfl; (focus (repeat (first | apply Upd.head | apply Upd.tail))); exact (fun _ => List.mem_singleton.2 rfl); clear hR hA; intro wk hR hA)
    | ((with_reducible apply wpList_put1A hR hA tErrI); exact rfl; exact rfl; exact rfl; (focus (repeat (first | apply List.Mem.head | apply List.Mem.tail | apply List.mem_append_right))); (exact put_err _ _ _); (simp); exact rfl; (focus (repeat (first | apply Upd.head | apply Upd.tail))); exact (fun _ => List.mem_singleton.2 rfl); clear hR hA; intro wk hR hA)
    | ((with_reducible apply q_lsK hR hA); exact rfl; ((with_reducible first | apply t_addr (fSrcI _ (by decide)) | apply t_one tSlI | apply t_one tErrI) <;> (first | (apply EvC.gv; exact rfl; (with_reducible first | exact Imp.refl _ | (apply Imp.left; exact Imp.refl _) | (apply Imp.right; exact Imp.refl _) | (apply Imp.left; apply Imp.left; exact Imp.refl _))) | (apply EvC.now; exact rfl) | exact rfl | (with_reducible exact EvAll.nil) | (focus (repeat (first | apply EvAll.cons | exact EvAll.nil | (apply EvC.gv; exact rfl; (with_reducible first | exact Imp.refl _ | (apply Imp.left; exact Imp.refl _) | (apply Imp.right; exact Imp.refl _) | (apply Imp.left; apply Imp.left; exact Imp.refl _))) | (apply EvC.now; exact rfl))); done) | exact rfl | (focus (repeat (first | apply List.Mem.head | apply List.Mem.tail | apply List.mem_append_right))))); (simp only [List.set_cons_succ, List.set_cons_zero]; exact rfl); clear hR hA; intro wk hR hA))
    go_end0
    refine ⟨rfl, ⟨_, hR, ?_⟩, hA⟩
    rw [HW.out]
    exact ⟨_, rfl, SrcR.noneI _⟩
  · have HE := Lib.hid (show cmpB .neq s.e 0 = some true by simp [cmpB, he])
    have HW := Lib.hid (show wrongZ s x = s from if_neg he)
    clear he
    go_enter Try.func44, Try.ntmps44
    go_upto_region 0 with fail
    refine wp_region_tameK hR hA [0, 1, 2, 3, 4, 5, 6] rfl ?_
    repeat (refine wpT_step rfl ?_; first
    | ((first | (with_reducible apply q_pl) | ((with_reducible apply q_gd); (first | (apply GdBy.gt; exact rfl; exact rfl) | (apply GdBy.gf; exact rfl; exact rfl) | (apply GdBy.t; exact rfl; exact rfl) | (apply GdBy.f; exact rfl; exact rfl)))); (with_reducible apply t_call Try.call32); (first | (apply EvC.gv; exact rfl; (with_reducible first | exact Imp.refl _ | (apply Imp.left; exact Imp.refl _) | (apply Imp.right; exact Imp.refl _) | (apply Imp.left; apply Imp.left; exact Imp.refl _))) | (apply EvC.now; exact rfl) | exact rfl | (with_reducible exact EvAll.nil) | (focus (repeat (first | apply EvAll.cons | exact EvAll.nil | (apply EvC.gv; exact rfl; (with_reducible first | exact Imp.refl _ | (apply Imp.left; exact Imp.refl _) | (apply Imp.right; exact Imp.refl _) | (apply Imp.left; apply Imp.left; exact Imp.refl _))) | (apply EvC.now; exact rfl))); done) | exact rfl | (focus (repeat (first | apply List.Mem.head | apply List.Mem.tail | apply List.mem_append_right)))); (intro hcc w hC; exact tame_below (errX_any hC Les.one hY hS) hC); (simp only [List.set_cons_succ, List.set_cons_zero]; exact rfl))
    | ((first | (with_reducible apply q_pl) | ((with_reducible apply q_gd); (first | (apply GdBy.gt; exact rfl; exact rfl) | (apply GdBy.gf; exact rfl; exact rfl) | (apply GdBy.t; exact rfl; exact rfl) | (apply GdBy.f; exact rfl; exact rfl)))); (with_reducible apply t_cmp); (first | (apply EvC.gv; exact rfl; (with_reducible first | exact Imp.refl _ | (apply Imp.left; exact Imp.refl _) | (apply Imp.right; exact Imp.refl _) | (apply Imp.left; apply Imp.left; exact Imp.refl _))) | (apply EvC.now; exact rfl) | exact rfl | (with_reducible exact EvAll.nil) | (focus (repeat (first | apply EvAll.cons | exact EvAll.nil | (apply EvC.gv; exact rfl; (with_reducible first | exact Imp.refl _ | (apply Imp.left; exact Imp.refl _) | (apply Imp.right; exact Imp.refl _) | (apply Imp.left; apply Imp.left; exact Imp.refl _))) | (apply EvC.now; exact rfl))); done) | exact rfl | (focus (repeat (first | apply List.Mem.head | apply List.Mem.tail | apply List.mem_append_right)))); (first | (apply EvC.gv; exact rfl; (with_reducible first | exact Imp.refl _ | (apply Imp.left; exact Imp.refl _) | (apply Imp.right; exact Imp.refl _) | (apply Imp.left; apply Imp.left; exact Imp.refl _))) | (apply EvC.now; exact rfl) | exact rfl | (with_reducible exact EvAll.nil) | (focus (repeat (first | apply EvAll.cons | exact EvAll.nil | (apply EvC.gv; exact rfl; (with_reducible first | exact Imp.refl _ | (apply Imp.left; exact Imp.refl _) | (apply Imp.right; exact Imp.refl _) | (apply Imp.left; apply Imp.left; exact Imp.refl _))) | (apply EvC.now; exact rfl))); done) | exact rfl | (focus (repeat (first | apply List.Mem.head | apply List.Mem.tail | apply List.mem_append_right)))); (first | exact HE.out | exact HX.out); (simp only [List.set_cons_succ, List.set_cons_zero]; exact rfl))
    | ((first | (with_reducible apply q_pl) | ((with_reducible apply q_gd); (first | (apply GdBy.gt; exact rfl; exact rfl) | (apply GdBy.gf; exact rfl; exact rfl) | (apply GdBy.t; exact rfl; exact rfl) | (apply GdBy.f; exact rfl; exact rfl)))); (first | ((with_reducible first | apply t_move | apply t_assign | apply t_and | apply t_or | apply t_cmp | apply t_not | apply t_addr (fSrcI _ (by decide)) | apply t_one tSlI | apply t_one tErrI) <;> (first | (apply EvC.gv; exact rfl; (with_reducible first | exact Imp.refl _ | (apply Imp.left; exact Imp.refl _) | (apply Imp.right; exact Imp.refl _) | (apply Imp.left; apply Imp.left; exact Imp.refl _))) | (apply EvC.now; exact rfl) | exact rfl | (with_reducible exact EvAll.nil) | (focus (repeat (first | apply EvAll.cons | exact EvAll.nil | (apply EvC.gv; exact rfl; (with_reducible first | exact Imp.refl _ | (apply Imp.left; exact Imp.refl _) | (apply Imp.right; exact Imp.refl _) | (apply Imp.left; apply Imp.left; exact Imp.refl _))) | (apply EvC.now; exact rfl))); done) | exact rfl | (focus (repeat (first | apply List.Mem.head | apply List.Mem.tail | apply List.mem_append_right)))))); (simp only [List.set_cons_succ, List.set_cons_zero]; exact rfl)))
    refine wpT_nil ?_
    clear hR hA; intro wk hR hA
    go_wp2_with fail
    (try simp only [Exit.inBlock, Exit.then])
    refine bodyPost_ret (results_none rfl _ _ _) rfl ?_
    rw [HW.out]
    exact ⟨rfl, ⟨cs, hR, hS⟩, hA⟩
theorem takeK_any (hO : Own w0 w l) (hd : Les [(g, cs, 69)] l X) (hY : ∀ r ∈ sr, r ∈ X) (hS : SrcObj w0 sr cs s) (hok : s.ok) (hl : s.b.length ≤ 1000000) (n : Int) (h0 : -9223372036854775808 ≤ n) (h1 : n ≤ 9223372036854775807) :
    Calls Try.prog 46 #[.pointer (some ⟨g, 0, none⟩), .int .i64 n] w fun e w' => ∃ v, e = .returned v ∧ ThenS w0 g X sr (takeZ s n).2 w' ∧ SrcR sr v (takeZ s n).1 ∧ Apart w w' [g] := by
  have hR : Own w0 w ((g, cs, 69) :: X) := hO.les hd
  have hA := Apart.refl w [g]
  have hS2 := hS
  obtain ⟨v, rfl, hv⟩ := hS.way
  have hz := hv w0 w _ hR (fun r hr => .tail _ (hY r hr))
  clear hO hd hS
  go_enter Try.func46, Try.ntmps46
  go_upto_region 3 with fail
  refine wp_region_tameK hR hA [0, 1, 2, 3, 4, 5, 6, 7, 8, 9, 10] rfl ?_
  repeat (refine wpT_step rfl ?_; first
    | ((first | (with_reducible apply q_pl) | ((with_reducible apply q_gd); (first | (apply GdBy.gt; exact rfl; exact rfl) | (apply GdBy.gf; exact rfl; exact rfl) | (apply GdBy.t; exact rfl; exact rfl) | (apply GdBy.f; exact rfl; exact rfl)))); (with_reducible apply t_nilck); (first | (apply EvC.gv; exact rfl; (with_reducible first | exact Imp.refl _ | (apply Imp.left; exact Imp.refl _) | (apply Imp.right; exact Imp.refl _) | (apply Imp.left; apply Imp.left; exact Imp.refl _))) | (apply EvC.now; exact rfl) | exact rfl | (with_reducible exact EvAll.nil) | (focus (repeat (first | apply EvAll.cons | exact EvAll.nil | (apply EvC.gv; exact rfl; (with_reducible first | exact Imp.refl _ | (apply Imp.left; exact Imp.refl _) | (apply Imp.right; exact Imp.refl _) | (apply Imp.left; apply Imp.left; exact Imp.refl _))) | (apply EvC.now; exact rfl))); done) | exact rfl | (focus (repeat (first | apply List.Mem.head | apply List.Mem.tail | apply List.mem_append_right)))); (simp only [List.set_cons_succ, List.set_cons_zero]; exact rfl))
    | ((first | (with_reducible apply q_pl) | ((with_reducible apply q_gd); (first | (apply GdBy.gt; exact rfl; exact rfl) | (apply GdBy.gf; exact rfl; exact rfl) | (apply GdBy.t; exact rfl; exact rfl) | (apply GdBy.f; exact rfl; exact rfl)))); (with_reducible apply t_lenW Try.underlying22); (first | (apply EvC.gv; exact rfl; (with_reducible first | exact Imp.refl _ | (apply Imp.left; exact Imp.refl _) | (apply Imp.right; exact Imp.refl _) | (apply Imp.left; apply Imp.left; exact Imp.refl _))) | (apply EvC.now; exact rfl) | exact rfl | (with_reducible exact EvAll.nil) | (focus (repeat (first | apply EvAll.cons | exact EvAll.nil | (apply EvC.gv; exact rfl; (with_reducible first | exact Imp.refl _ | (apply Imp.left; exact Imp.refl _) | (apply Imp.right; exact Imp.refl _) | (apply Imp.left; apply Imp.left; exact Imp.refl _))) | (apply EvC.now; exact rfl))); done) | exact rfl | (focus (repeat (first | apply List.Mem.head | apply List.Mem.tail | apply List.mem_append_right)))); exact hz; (simp only [List.set_cons_succ, List.set_cons_zero]; exact rfl))
    | ((first | (with_reducible apply q_pl) | ((with_reducible apply q_gd); (first | (apply GdBy.gt; exact rfl; exact rfl) | (apply GdBy.gf; exact rfl; exact rfl) | (apply GdBy.t; exact rfl; exact rfl) | (apply GdBy.f; exact rfl; exact rfl)))); (first | ((with_reducible first | apply t_move | apply t_assign | apply t_and | apply t_or | apply t_cmp | apply t_not | apply t_addr (fSrcI _ (by decide)) | apply t_one tSlI | apply t_one tErrI) <;> (first | (apply EvC.gv; exact rfl; (with_reducible first | exact Imp.refl _ | (apply Imp.left; exact Imp.refl _) | (apply Imp.right; exact Imp.refl _) | (apply Imp.left; apply Imp.left; exact Imp.refl _))) | (apply EvC.now; exact rfl) | exact rfl | (with_reducible exact EvAll.nil) | (focus (repeat (first | apply EvAll.cons | exact EvAll.nil | (apply EvC.gv; exact rfl; (with_reducible first | exact Imp.refl _ | (apply Imp.left; exact Imp.refl _) | (apply Imp.right; exact Imp.refl _) | (apply Imp.left; apply Imp.left; exact Imp.refl _))) | (apply EvC.now; exact rfl))); done) | exact rfl | (focus (repeat (first | apply List.Mem.head | apply List.Mem.tail | apply List.mem_append_right)))))); (simp only [List.set_cons_succ, List.set_cons_zero]; exact rfl)))
  refine wpT_nil ?_
  clear hR hA; intro wk hR hA
  go_upto_if 18 with fail
  by_cases hb : n < 0 ∨ (s.b.length : Int) < n
  · have HT := Lib.hid (take_short hb)
    refine wp_cond_at (nm := true) rfl (by simp; omega) (fun _ => ?_) (fun h => absurd h (by decide))
    clear hb
    go_wp2_with (first
    | (go_at_call 44; refine (wrongK_any hR Les.one hY hS2 hok 2 (by decide) (by decide) (by decide)).mono ?_; rintro e w' ⟨rfl, hW, hA2⟩; replace hA := hA.trans hA2 (fun k hk _ => hk); clear hR hA2))
    go_ret
    rw [HT.out]
    exact ⟨_, rfl, hW, SrcR.noneI _, hA⟩
  · obtain ⟨m, rfl⟩ : ∃ m : Nat, n = m := Int.eq_ofNat_of_zero_le (by omega)
    have hm : m ≤ s.b.length := by omega
    have HT := Lib.hid (show takeZ s m = (s.b.take m, ⟨s.b.drop m, s.e⟩) by unfold takeZ; rw [if_pos (by omega), Int.toNat_natCast])
    refine wp_cond_at (nm := false) rfl (by simp; omega) (fun h => absurd h (by decide)) (fun _ => ?_)
    obtain ⟨a, nn, c, rfl⟩ := hz.shapeI
    clear hb hS2
    go_wp2_with (first
    | ((with_reducible apply q_lsK hR hA); exact rfl; (with_reducible apply t_nilck); (apply EvC.now; exact rfl); (simp only [List.set_cons_succ, List.set_cons_zero]; exact rfl); clear hR hA; intro wk hR hA)
    | ((with_reducible apply q_lsK hR hA); exact rfl; (with_reducible apply t_cut3 tBytesN hz (h := m)); (apply EvC.now; exact rfl); (apply EvC.now; exact rfl); (apply EvC.now; exact rfl); exact rfl; exact rfl; exact hm; (simp only [List.set_cons_succ, List.set_cons_zero]; exact rfl); clear hR hA; intro wk hR hA)
    | ((with_reducible apply q_lsK hR hA); exact rfl; (with_reducible apply t_cutL tBytesN hz (l := m)); (apply EvC.now; exact rfl); (apply EvC.now; exact rfl); exact rfl; exact hm; (simp only [List.set_cons_succ, List.set_cons_zero]; exact rfl); clear hR hA; intro wk hR hA)
    | ((with_reducible apply wpList_put1A hR hA tSlI); exact rfl; exact rfl; exact rfl; (focus (repeat (first | apply List.Mem.head | apply List.Mem.tail | apply List.mem_append_right))); (exact put_rest _ _ _); (simp); exact rfl; (focus (repeat (first | apply Upd.head | apply Upd.tail))); exact (fun _ => List.mem_singleton.2 rfl); clear hR hA; intro wk hR hA)
    | ((with_reducible apply q_lsK hR hA); exact rfl; ((with_reducible first | apply t_addr (fSrcI _ (by decide)) | apply t_one tSlI | apply t_one tErrI) <;> (first | (apply EvC.gv; exact rfl; (with_reducible first | exact Imp.refl _ | (apply Imp.left; exact Imp.refl _) | (apply Imp.right; exact Imp.refl _) | (apply Imp.left; apply Imp.left; exact Imp.refl _))) | (apply EvC.now; exact rfl) | exact rfl | (with_reducible exact EvAll.nil) | (focus (repeat (first | apply EvAll.cons | exact EvAll.nil | (apply EvC.gv; exact rfl; (with_reducible first | exact Imp.refl _ | (apply Imp.left; exact Imp.refl _) | (apply Imp.right; exact Imp.refl _) | (apply Imp.left; apply Imp.left; exact Imp.refl _))) | (apply EvC.now; exact rfl))); done) | exact rfl | (focus (repeat (first | apply List.Mem.head | apply List.Mem.tail | apply List.mem_append_right))))); (simp only [List.set_cons_succ, List.set_cons_zero]; exact rfl); clear hR hA; intro wk hR hA))
    go_ret
    rw [HT.out]
    exact ⟨_, rfl, ⟨_, hR, _, rfl, hv.restI m hm⟩, hv.cut3I m hm, hA⟩
set_option maxHeartbeats 1000000 in
theorem numK_any (hO : Own w0 w l) (hd : Les [(g, cs, 69)] l X) (hY : ∀ r ∈ sr, r ∈ X) (hS : SrcObj w0 sr cs s) (hok : s.ok) (hl : s.b.length ≤ 1000000) (m : Nat) (hm : m ≤ 4) :
    Calls Try.prog 42 #[.pointer (some ⟨g, 0, none⟩), .int .i64 m] w fun e w' => e = .returned (.int .u32 (numZ s m).1) ∧ ThenS w0 g X sr (numZ s m).2 w' ∧ Apart w w' [g] := by
  have hR : Own w0 w ((g, cs, 69) :: X) := hO.les hd
  have hA := Apart.refl w [g]
  clear hO hd
  have hbok := (take_ok hok m).1
  have hbl := take_len2 s m
  show Calls _ _ _ _ fun e w' => e = .returned (.int .u32 (leZ (takeZ s m).1)) ∧ ThenS w0 g X sr (takeZ s m).2 w' ∧ Apart w w' [g]
  obtain ⟨bs, hbs⟩ : ∃ bs, (takeZ s m).1 = bs := ⟨_, rfl⟩
  obtain ⟨s2, hs2⟩ : ∃ s2, (takeZ s m).2 = s2 := ⟨_, rfl⟩
  rw [hbs, hs2]
  rw [hbs] at hbok hbl
  have HB := Lib.hid hbs
  have HD := Lib.hid hs2
  clear hbs hs2
  go_enter Try.func42, Try.ntmps42
  go_wp2_with fail
  refine (takeK_any hR Les.one hY hS hok hl m (by omega) (by omega)).mono ?_
  rintro e w' ⟨v, rfl, hT, hv, hA2⟩
  replace hA := hA.trans hA2 (fun k hk _ => hk)
  clear hA2
  rw [HD.out] at hT
  rw [HB.out] at hv
  obtain ⟨cs2, hR2, hS2⟩ := hT
  clear hR hS HB HD
  have hR := hR2
  clear hR2
  have hsub : ∀ r ∈ sr, r ∈ (g, cs2, 69) :: X := fun r hr => .tail _ (hY r hr)
  have hz := hv _ _ _ hR hsub
  have HS := Lib.hid hS2
  clear hS2
  go_wp2_with (first
    | ((with_reducible apply q_lsK hR hA); exact rfl; (with_reducible apply t_lenW Try.underlying22); (apply EvC.now; exact rfl); exact hz; (simp only [List.set_cons_succ, List.set_cons_zero]; exact rfl); clear hR hA; intro wk hR hA))
  go_loopw [5, 12] (fun n i wr => ∃ k : Nat, i = .int .i64 k ∧ k ≤ bs.length ∧ n = .int .u32 (leZ (bs.take k)) ∧ Own w0 wr ((g, cs2, 69) :: X) ∧ Apart w wr [g]) (fun _ i _ => bs.length - (intOf i).toNat)
  case atStart => exact ⟨0, rfl, Nat.zero_le _, by simp [leZ], hR, hA⟩
  case round =>
    clear hR hA
    obtain ⟨k, rfl, hk, rfl, hR, hA⟩ := hrel
    by_cases hkl : k < bs.length
    · obtain ⟨n, hn⟩ : ∃ n, bs[k]? = some n := ⟨_, List.getElem?_eq_getElem hkl⟩
      have hbn := hbok.at hn
      have hmore := le_more hn
      have hlt := le_lt (hbok.take k)
      rw [List.length_take, show min k bs.length = k by omega] at hlt
      obtain ⟨a, hcap, rfl, _⟩ := hz.el' hn
      have HC : Hid (∀ w, Own w0 w ((g, cs2, 69) :: X) → w.cell? (a.add (k * 1)) = some (.int .u8 n)) := Lib.hid (fun w hC => by rw [Nat.mul_one]; exact (hv _ w _ hC hsub).elI hn)
      generalize leZ (bs.take k) = x at *
      have HM := Lib.hid (show IntKind.i64.wrap (8 * (k : Int)) = ((8 * k : Nat) : Int) by rw [IntKind.wrap_i64]; omega)
      have hp : (2 : Int) ^ (8 * k) ≤ 16777216 := by
        have : (2 : Nat) ^ (8 * k) ≤ 16777216 := Nat.le_trans (Nat.pow_le_pow_right (by decide) (show 8 * k ≤ 24 by omega)) (by decide)
        have e : (2 : Int) ^ (8 * k) = ((2 ^ (8 * k) : Nat) : Int) := (Int.natCast_pow 2 (8 * k)).symm
        rw [e]
        exact Int.ofNat_le.2 this
      have hp0 : (0 : Int) < 2 ^ (8 * k) := Int.pow_pos (by decide)
      have hq : 0 ≤ n * 2 ^ (8 * k) ∧ n * 2 ^ (8 * k) ≤ 4278190080 := by
        refine ⟨Int.mul_nonneg hbn.1 (by omega), ?_⟩
        have := Int.mul_le_mul hbn.2 hp (by omega) (by decide)
        omega
      have HH := Lib.hid (show IntKind.u32.wrap (n * 2 ^ (8 * k)) = n * 2 ^ (8 * k) by rw [IntKind.wrap_u32]; omega)
      have HO := Lib.hid (or_at hlt.1 hlt.2 hbn (show k ≤ 3 by omega))
      have HN := Lib.hid (show IntKind.u32.wrap n = n by rw [IntKind.wrap_u32]; omega)
      have HV := Lib.hid hmore
      have h8 : 8 * k ≤ 32 := by omega
      have hkl' : (k : Int) < (bs.length : Int) := by omega
      clear hmore hn hq hp hp0 hlt hz hv hok
      go_wp2_with (first
    | ((with_reducible apply q_lsK hR hA); exact rfl; (with_reducible apply t_six Try.underlying22 iByteI); (apply EvC.now; exact rfl); (apply EvC.now; exact rfl); (constructor <;> omega); (simp only [List.set_cons_succ, List.set_cons_zero]; exact rfl); clear hR hA; intro wk hR hA)
    | ((with_reducible apply q_lsK hR hA); exact rfl; (with_reducible apply t_cellW tByteI); (apply EvC.now; exact rfl); exact HC.out; (simp only [List.set_cons_succ, List.set_cons_zero]; exact rfl); clear hR hA; intro wk hR hA)
    | ((with_reducible apply q_lsK hR hA); exact rfl; (with_reducible apply t_conv Try.underlying5 Try.underlying72); (apply EvC.now; exact rfl); exact HN.out; (simp only [List.set_cons_succ, List.set_cons_zero]; exact rfl); clear hR hA; intro wk hR hA)
    | ((with_reducible apply q_lsK hR hA); exact rfl; (with_reducible apply t_numE (op := .mul)); (apply EvC.now; exact rfl); (apply EvC.now; exact rfl); exact rfl; exact HM.out; (simp only [List.set_cons_succ, List.set_cons_zero]; exact rfl); clear hR hA; intro wk hR hA)
    | ((with_reducible apply q_lsK hR hA); exact rfl; (with_reducible apply t_shlE (k := 8 * k)); (apply EvC.now; exact rfl); (apply EvC.now; exact rfl); exact rfl; exact h8; exact HH.out; (simp only [List.set_cons_succ, List.set_cons_zero]; exact rfl); clear hR hA; intro wk hR hA)
    | ((with_reducible apply q_lsK hR hA); exact rfl; (with_reducible apply t_numE (op := .or)); (apply EvC.now; exact rfl); (apply EvC.now; exact rfl); exact rfl; exact HO.out; (simp only [List.set_cons_succ, List.set_cons_zero]; exact rfl); clear hR hA; intro wk hR hA))
      go_round
      case rel => exact ⟨k + 1, rfl, by omega, by rw [HV.out], hR, hA⟩
      case measure => first | (simp [intOf]; done) | (simp [intOf]; omega)
    · have hke : bs.take k = bs := List.take_of_length_le (by omega)
      rw [hke]
      go_wp2_with fail
      go_ret
      exact ⟨rfl, ⟨_, hR, HS.out⟩, hA⟩
theorem byteK_any (hO : Own w0 w l) (hd : Les [(g, cs, 69)] l X) (hY : ∀ r ∈ sr, r ∈ X) (hS : SrcObj w0 sr cs s) (hok : s.ok) (hl : s.b.length ≤ 1000000) :
    Calls Try.prog 40 #[.pointer (some ⟨g, 0, none⟩)] w fun e w' => e = .returned (.int .u8 (numZ s 1).1) ∧ ThenS w0 g X sr (numZ s 1).2 w' ∧ Apart w w' [g] := by
  have hb := byte_bd hok
  have HC := Lib.hid (show IntKind.u8.wrap (numZ s 1).1 = (numZ s 1).1 by rw [IntKind.wrap_u8]; omega)
  go_enter Try.func40, Try.ntmps40
  go_wp2_with (first
    | (go_at_call 42; refine (numK_any hO hd hY hS hok hl 1 (by decide)).mono ?_; rintro e w' ⟨rfl, hT⟩))
  go_ret
  exact ⟨by first | rfl | exact ret_int HC.out, hT⟩
theorem wordK_any (hO : Own w0 w l) (hd : Les [(g, cs, 69)] l X) (hY : ∀ r ∈ sr, r ∈ X) (hS : SrcObj w0 sr cs s) (hok : s.ok) (hl : s.b.length ≤ 1000000) :
    Calls Try.prog 29 #[.pointer (some ⟨g, 0, none⟩)] w fun e w' => e = .returned (.int .u16 (numZ s 2).1) ∧ ThenS w0 g X sr (numZ s 2).2 w' ∧ Apart w w' [g] := by
  have hb := num_lt hok 2
  have HC := Lib.hid (show IntKind.u16.wrap (numZ s 2).1 = (numZ s 2).1 by rw [IntKind.wrap_u16]; omega)
  clear hb
  go_enter Try.func29, Try.ntmps29
  go_wp2_with (first
    | (go_at_call 42; refine (numK_any hO hd hY hS hok hl 2 (by decide)).mono ?_; rintro e w' ⟨rfl, hT⟩))
  go_ret
  exact ⟨by first | rfl | exact ret_int HC.out, hT⟩
theorem nameK_any (hO : Own w0 w l) (hd : Les [(g, cs, 69)] l X) (hY : ∀ r ∈ sr, r ∈ X) (hS : SrcObj w0 sr cs s) (hok : s.ok) (hl : s.b.length ≤ 1000000) :
    Calls Try.prog 47 #[.pointer (some ⟨g, 0, none⟩)] w fun e w' => e = .returned (.string (strOfNums (nameZ s).1)) ∧ ThenS w0 g X sr (nameZ s).2 w' ∧ Apart w w' [g] := by
  have hb := byte_bd hok
  have hok2 : (numZ s 1).2.ok := (take_ok hok 1).2
  have hl2 : (numZ s 1).2.b.length ≤ 1000000 := Nat.le_trans (take_len1 s 1) hl
  have HC := Lib.hid (show IntKind.i64.wrap (numZ s 1).1 = (numZ s 1).1 from IntWalk.i64_in _ (by omega))
  show Calls _ _ _ _ fun e w' => e = .returned (.string (strOfNums (takeZ (numZ s 1).2 (numZ s 1).1).1)) ∧ ThenS w0 g X sr (takeZ (numZ s 1).2 (numZ s 1).1).2 w' ∧ Apart w w' [g]
  have HN := Lib.hid (show (numZ s 1) = (numZ s 1) from rfl)
  go_enter Try.func47, Try.ntmps47
  go_wp2_with fail
  refine (byteK_any hO hd hY hS hok hl).mono ?_
  rintro e w' ⟨rfl, ⟨cs2, hR, hS2⟩, hA⟩
  clear hO hd hS
  go_wp2_with (first
    | ((with_reducible apply q_lsK hR hA); exact rfl; (with_reducible apply t_conv Try.underlying5 Try.underlying3); (apply EvC.now; exact rfl); exact HC.out; (simp only [List.set_cons_succ, List.set_cons_zero]; exact rfl); clear hR hA; intro wk hR hA)
    | (go_at_call 46; refine (takeK_any hR Les.one hY hS2 hok2 hl2 _ (by omega) (by omega)).mono ?_; rintro e w' ⟨v, rfl, ⟨cs3, hR3, hS3⟩, hv, hA2⟩; replace hA := hA.trans hA2 (fun k hk _ => hk); clear hR hA2; have hR := hR3; clear hR3)
    | ((with_reducible apply q_lsK hR hA); exact rfl; (with_reducible apply t_strW tTextN); (apply EvC.now; exact rfl); (exact fun w hC => hv _ w _ hC (fun r hr => .tail _ (hY r hr))); (simp only [List.set_cons_succ, List.set_cons_zero]; exact rfl); clear hR hA; intro wk hR hA))
  go_ret
  exact ⟨rfl, ⟨cs3, hR, hS3⟩, hA⟩
end
end Go.Proofs.Ytalgadinoaeihaa
