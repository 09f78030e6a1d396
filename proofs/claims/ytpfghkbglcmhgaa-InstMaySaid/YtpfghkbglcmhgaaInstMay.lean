/- The law InstMay (which instructions may be, of whatever numbers, and how long they are) returns true whatever the arguments, and each argument reads afterwards as before. There is no condition on the arguments. -/
import Derived.Test.YtpfghkbglcmhgaaRows
import Derived.Test.YtpfghkbglcmhgaaLaw05
import Derived.Deep.CutBlock
import Derived.Test.YtpfghkbglcmhgaaNear
import Derived.WalkKit
import Derived.ProofKit
import Derived.OpenShut
import Derived.ShutString
import Derived.ChangeOld
import Derived.Below
namespace Go.Proofs.Ytpfghkbglcmhgaa.instMay
open Go.ChangeShapes Go.WideShapes Go.ChangeAt Go.RowKit
open Go.ChangeMaps (open_string shut_string)
set_option linter.unusedVariables false
set_option linter.unusedSimpArgs false

theorem own : ownKnob Try.prog.godebug = none := by kernel_rfl
theorem laidOut : laidOutB Try.prog = true := by kernel_rfl



theorem o_ways (k : Int) : (k == 0) = true ∨ ((k == 0) = false ∧ (k == 1) = true) ∨ ((k == 0) = false ∧ (k == 1) = false ∧ (k == 2) = true) ∨
    ((k == 0) = false ∧ (k == 1) = false ∧ (k == 2) = false ∧ (k == 3) = true) ∨ ((k == 0) = false ∧ (k == 1) = false ∧ (k == 2) = false ∧ (k == 3) = false ∧ (k == 4) = true) ∨
    ((k == 0) = false ∧ (k == 1) = false ∧ (k == 2) = false ∧ (k == 3) = false ∧ (k == 4) = false ∧ (k == 5) = true) ∨
    ((k == 0) = false ∧ (k == 1) = false ∧ (k == 2) = false ∧ (k == 3) = false ∧ (k == 4) = false ∧ (k == 5) = false ∧ (k == 6) = true) ∨
    ((k == 0) = false ∧ (k == 1) = false ∧ (k == 2) = false ∧ (k == 3) = false ∧ (k == 4) = false ∧ (k == 5) = false ∧ (k == 6) = false) := by
  cases k == 0 <;> cases k == 1 <;> cases k == 2 <;> cases k == 3 <;> cases k == 4 <;> cases k == 5 <;> cases k == 6 <;> simp
/-- How far the law has come. -/
def LawIs (w0 : World) (g1 g2 : Nat) (x : InstZ) (wx : World) : Prop :=
  ∃ j : InstZ, j.ok ∧ Own w0 wx [(g2, encI j, 24), (g1, encI x, 24)]
set_option maxHeartbeats 4000000 in
set_option maxRecDepth 100000 in
theorem walk {base : Nat} {W : World} (v0 : Value) (k0 : Value.okWide Try.prog W .any base 24 v0) (odd : Int) (w1 : (Lit.int .i64 odd).wf = true) (w0 : World) :
    Calls Try.prog 3 #[v0, .int .i64 odd] w0 fun e w' => e = .returned (.bool true) ∧ Below w0.heap.size w0 w' := by
  obtain ⟨x, hx, rfl⟩ := open_inst k0
  clear w1
  have hR := Own.start w0
  go_enter Try.func3, Try.ntmps3
  go_upto_block 0 with (first
    | (go_at_call 5; refine (near_any x hx _).mono ?_; rintro e w' ⟨j, hj, _, rfl, hb⟩; replace hR := hR.grow hb; clear hb)
    | ((with_reducible apply wpList_box hR); exact rfl; exact rfl; clear hR; intro g1 w hR; simp only [List.set_cons_succ, List.set_cons_zero])
    | ((with_reducible apply wpList_make hR zInst); exact rfl; clear hR; intro g2 w hR; simp only [List.set_cons_succ, List.set_cons_zero])
    | ((with_reducible apply wpList_addr (fInst _ (by decide))); exact rfl; (simp only [List.set_cons_succ, List.set_cons_zero]; exact rfl))
    | ((with_reducible apply wpList_addr (fRow _ (by decide))); exact rfl; (simp only [List.set_cons_succ, List.set_cons_zero]; exact rfl))
    | ((with_reducible apply wpList_box hR); exact rfl; exact rfl; clear hR; intro g w hR; simp only [List.set_cons_succ, List.set_cons_zero])
    | ((with_reducible apply wpList_make hR zInst); exact rfl; clear hR; intro g w hR; simp only [List.set_cons_succ, List.set_cons_zero])
    | ((with_reducible apply wpList_make hR zRow); exact rfl; clear hR; intro g w hR; simp only [List.set_cons_succ, List.set_cons_zero])
    | ((with_reducible apply wpList_part hR tInst); exact rfl; exact rfl; (focus (repeat (first | apply List.Mem.head | apply List.Mem.tail))); apply ext_inst; exact rfl; (simp only [List.set_cons_succ, List.set_cons_zero]; exact rfl))
    | ((with_reducible apply wpList_part hR tRow); exact rfl; exact rfl; (focus (repeat (first | apply List.Mem.head | apply List.Mem.tail))); apply ext_row; exact rfl; (simp only [List.set_cons_succ, List.set_cons_zero]; exact rfl))
    | ((with_reducible apply wpList_one hR tInt); exact rfl; exact rfl; (focus (repeat (first | apply List.Mem.head | apply List.Mem.tail))); exact rfl; (simp only [List.set_cons_succ, List.set_cons_zero]; exact rfl))
    | ((with_reducible apply wpList_one hR tWord); exact rfl; exact rfl; (focus (repeat (first | apply List.Mem.head | apply List.Mem.tail))); exact rfl; (simp only [List.set_cons_succ, List.set_cons_zero]; exact rfl))
    | ((with_reducible apply wpList_one hR tByte); exact rfl; exact rfl; (focus (repeat (first | apply List.Mem.head | apply List.Mem.tail))); exact rfl; (simp only [List.set_cons_succ, List.set_cons_zero]; exact rfl))
    | ((with_reducible apply wpList_one hR tBool); exact rfl; exact rfl; (focus (repeat (first | apply List.Mem.head | apply List.Mem.tail))); exact rfl; (simp only [List.set_cons_succ, List.set_cons_zero]; exact rfl))
    | ((with_reducible apply wpList_put hR tInst); exact rfl; exact rfl; exact rfl; (focus (repeat (first | apply List.Mem.head | apply List.Mem.tail))); apply put_inst; exact rfl; simp [encI]; apply one_inst; (focus (repeat (first | apply Upd.head | apply Upd.tail))); clear hR; intro w hR)
    | ((with_reducible apply wpList_put hR tRow); exact rfl; exact rfl; exact rfl; (focus (repeat (first | apply List.Mem.head | apply List.Mem.tail))); apply put_row; exact rfl; simp [encR]; apply one_row; (focus (repeat (first | apply Upd.head | apply Upd.tail))); clear hR; intro w hR)
    | ((with_reducible apply wpList_built); exact rfl; exact rfl; (first | exact bInst1 _ | exact bInst2 _ _ | exact bInst3 _ _ | exact bRow0); (simp only [List.set_cons_succ, List.set_cons_zero]; exact rfl))
    | ((with_reducible apply wpList_put1 hR tInt); exact rfl; exact rfl; exact rfl; (focus (repeat (first | apply List.Mem.head | apply List.Mem.tail))); (first | apply put_rep | apply put_seg | apply put_mod | apply put_reg | apply put_rm | apply put_disp | apply put_imm | apply put_sel); simp [encI]; exact rfl; (focus (repeat (first | apply Upd.head | apply Upd.tail))); clear hR; intro w hR)
    | ((with_reducible apply wpList_put1 hR tWord); exact rfl; exact rfl; exact rfl; (focus (repeat (first | apply List.Mem.head | apply List.Mem.tail))); (first | apply put_rep | apply put_seg | apply put_mod | apply put_reg | apply put_rm | apply put_disp | apply put_imm | apply put_sel); simp [encI]; exact rfl; (focus (repeat (first | apply Upd.head | apply Upd.tail))); clear hR; intro w hR))
  generalize bits .and .i64 odd 15 = o
  go_cut [] (fun wx => LawIs w0 g1 g2 x wx)
  case first =>
    rcases o_ways o with p1 | ⟨p1, p2⟩ | ⟨p1, p2, p3⟩ | ⟨p1, p2, p3, p4⟩ | ⟨p1, p2, p3, p4, p5⟩ | ⟨p1, p2, p3, p4, p5, p6⟩ | ⟨p1, p2, p3, p4, p5, p6, p7⟩ | ⟨p1, p2, p3, p4, p5, p6, p7⟩
    · go_wp2_with (first
    | ((with_reducible apply wpList_box hR); exact rfl; exact rfl; clear hR; intro g1 w hR; simp only [List.set_cons_succ, List.set_cons_zero])
    | ((with_reducible apply wpList_make hR zInst); exact rfl; clear hR; intro g2 w hR; simp only [List.set_cons_succ, List.set_cons_zero])
    | ((with_reducible apply wpList_addr (fInst _ (by decide))); exact rfl; (simp only [List.set_cons_succ, List.set_cons_zero]; exact rfl))
    | ((with_reducible apply wpList_addr (fRow _ (by decide))); exact rfl; (simp only [List.set_cons_succ, List.set_cons_zero]; exact rfl))
    | ((with_reducible apply wpList_box hR); exact rfl; exact rfl; clear hR; intro g w hR; simp only [List.set_cons_succ, List.set_cons_zero])
    | ((with_reducible apply wpList_make hR zInst); exact rfl; clear hR; intro g w hR; simp only [List.set_cons_succ, List.set_cons_zero])
    | ((with_reducible apply wpList_make hR zRow); exact rfl; clear hR; intro g w hR; simp only [List.set_cons_succ, List.set_cons_zero])
    | ((with_reducible apply wpList_part hR tInst); exact rfl; exact rfl; (focus (repeat (first | apply List.Mem.head | apply List.Mem.tail))); apply ext_inst; exact rfl; (simp only [List.set_cons_succ, List.set_cons_zero]; exact rfl))
    | ((with_reducible apply wpList_part hR tRow); exact rfl; exact rfl; (focus (repeat (first | apply List.Mem.head | apply List.Mem.tail))); apply ext_row; exact rfl; (simp only [List.set_cons_succ, List.set_cons_zero]; exact rfl))
    | ((with_reducible apply wpList_one hR tInt); exact rfl; exact rfl; (focus (repeat (first | apply List.Mem.head | apply List.Mem.tail))); exact rfl; (simp only [List.set_cons_succ, List.set_cons_zero]; exact rfl))
    | ((with_reducible apply wpList_one hR tWord); exact rfl; exact rfl; (focus (repeat (first | apply List.Mem.head | apply List.Mem.tail))); exact rfl; (simp only [List.set_cons_succ, List.set_cons_zero]; exact rfl))
    | ((with_reducible apply wpList_one hR tByte); exact rfl; exact rfl; (focus (repeat (first | apply List.Mem.head | apply List.Mem.tail))); exact rfl; (simp only [List.set_cons_succ, List.set_cons_zero]; exact rfl))
    | ((with_reducible apply wpList_one hR tBool); exact rfl; exact rfl; (focus (repeat (first | apply List.Mem.head | apply List.Mem.tail))); exact rfl; (simp only [List.set_cons_succ, List.set_cons_zero]; exact rfl))
    | ((with_reducible apply wpList_put hR tInst); exact rfl; exact rfl; exact rfl; (focus (repeat (first | apply List.Mem.head | apply List.Mem.tail))); apply put_inst; exact rfl; simp [encI]; apply one_inst; (focus (repeat (first | apply Upd.head | apply Upd.tail))); clear hR; intro w hR)
    | ((with_reducible apply wpList_put hR tRow); exact rfl; exact rfl; exact rfl; (focus (repeat (first | apply List.Mem.head | apply List.Mem.tail))); apply put_row; exact rfl; simp [encR]; apply one_row; (focus (repeat (first | apply Upd.head | apply Upd.tail))); clear hR; intro w hR)
    | ((with_reducible apply wpList_built); exact rfl; exact rfl; (first | exact bInst1 _ | exact bInst2 _ _ | exact bInst3 _ _ | exact bRow0); (simp only [List.set_cons_succ, List.set_cons_zero]; exact rfl))
    | ((with_reducible apply wpList_put1 hR tInt); exact rfl; exact rfl; exact rfl; (focus (repeat (first | apply List.Mem.head | apply List.Mem.tail))); (first | apply put_rep | apply put_seg | apply put_mod | apply put_reg | apply put_rm | apply put_disp | apply put_imm | apply put_sel); simp [encI]; exact rfl; (focus (repeat (first | apply Upd.head | apply Upd.tail))); clear hR; intro w hR)
    | ((with_reducible apply wpList_put1 hR tWord); exact rfl; exact rfl; exact rfl; (focus (repeat (first | apply List.Mem.head | apply List.Mem.tail))); (first | apply put_rep | apply put_seg | apply put_mod | apply put_reg | apply put_rm | apply put_disp | apply put_imm | apply put_sel); simp [encI]; exact rfl; (focus (repeat (first | apply Upd.head | apply Upd.tail))); clear hR; intro w hR))
      go_meet
      exact ⟨x, hx, hR⟩
    · go_upto_region 6 with fail
      refine wp_region_some hR [(g1, encI x, 24)] (by (focus (repeat (first | exact List.Sublist.slnil | apply List.Sublist.cons_cons | apply List.Sublist.cons)))) [0, 1, 2, 3, 4] 3 (by kernel_rfl) (by kernel_rfl) (by kernel_rfl) rfl ?_
      clear hR; intro hR
      repeat (refine wpT_step rfl ?_; first
          | ((with_reducible apply wpT1_gaddr (fInst _ (by decide))); (first | (apply GdBy.gt; exact rfl; exact rfl) | (apply GdBy.gf; exact rfl; exact rfl) | (apply GdBy.t; exact rfl; exact rfl) | (apply GdBy.f; exact rfl; exact rfl)); (first | (apply EvC.gv; exact rfl; (with_reducible first | exact Imp.refl _ | (apply Imp.left; exact Imp.refl _) | (apply Imp.left; apply Imp.left; exact Imp.refl _))) | (apply EvC.now; exact rfl)); (simp only [List.set_cons_succ, List.set_cons_zero]; exact rfl))
          | ((with_reducible apply wpT1_gaddr (fRow _ (by decide))); (first | (apply GdBy.gt; exact rfl; exact rfl) | (apply GdBy.gf; exact rfl; exact rfl) | (apply GdBy.t; exact rfl; exact rfl) | (apply GdBy.f; exact rfl; exact rfl)); (first | (apply EvC.gv; exact rfl; (with_reducible first | exact Imp.refl _ | (apply Imp.left; exact Imp.refl _) | (apply Imp.left; apply Imp.left; exact Imp.refl _))) | (apply EvC.now; exact rfl)); (simp only [List.set_cons_succ, List.set_cons_zero]; exact rfl))
          | ((with_reducible apply wpT1_addr (fInst _ (by decide))); exact rfl; (simp only [List.set_cons_succ, List.set_cons_zero]; exact rfl))
          | ((with_reducible apply wpT1_addr (fRow _ (by decide))); exact rfl; (simp only [List.set_cons_succ, List.set_cons_zero]; exact rfl))
          | ((with_reducible apply wpT1_gmove); (first | (apply GdBy.gt; exact rfl; exact rfl) | (apply GdBy.gf; exact rfl; exact rfl) | (apply GdBy.t; exact rfl; exact rfl) | (apply GdBy.f; exact rfl; exact rfl)); (first | (apply EvC.gv; exact rfl; (with_reducible first | exact Imp.refl _ | (apply Imp.left; exact Imp.refl _) | (apply Imp.left; apply Imp.left; exact Imp.refl _))) | (apply EvC.now; exact rfl)); (simp only [List.set_cons_succ, List.set_cons_zero]; exact rfl))
          | ((with_reducible apply wpT1_gand); (first | (apply GdBy.gt; exact rfl; exact rfl) | (apply GdBy.gf; exact rfl; exact rfl) | (apply GdBy.t; exact rfl; exact rfl) | (apply GdBy.f; exact rfl; exact rfl)); (first | (apply EvC.gv; exact rfl; (with_reducible first | exact Imp.refl _ | (apply Imp.left; exact Imp.refl _) | (apply Imp.left; apply Imp.left; exact Imp.refl _))) | (apply EvC.now; exact rfl)); (first | (apply EvC.gv; exact rfl; (with_reducible first | exact Imp.refl _ | (apply Imp.left; exact Imp.refl _) | (apply Imp.left; apply Imp.left; exact Imp.refl _))) | (apply EvC.now; exact rfl)); (simp only [List.set_cons_succ, List.set_cons_zero]; exact rfl))
          | ((with_reducible apply wpT1_gor); (first | (apply GdBy.gt; exact rfl; exact rfl) | (apply GdBy.gf; exact rfl; exact rfl) | (apply GdBy.t; exact rfl; exact rfl) | (apply GdBy.f; exact rfl; exact rfl)); (first | (apply EvC.gv; exact rfl; (with_reducible first | exact Imp.refl _ | (apply Imp.left; exact Imp.refl _) | (apply Imp.left; apply Imp.left; exact Imp.refl _))) | (apply EvC.now; exact rfl)); (first | (apply EvC.gv; exact rfl; (with_reducible first | exact Imp.refl _ | (apply Imp.left; exact Imp.refl _) | (apply Imp.left; apply Imp.left; exact Imp.refl _))) | (apply EvC.now; exact rfl)); (simp only [List.set_cons_succ, List.set_cons_zero]; exact rfl))
          | ((with_reducible apply wpT1_gcmp); (first | (apply GdBy.gt; exact rfl; exact rfl) | (apply GdBy.gf; exact rfl; exact rfl) | (apply GdBy.t; exact rfl; exact rfl) | (apply GdBy.f; exact rfl; exact rfl)); (first | (apply EvC.gv; exact rfl; (with_reducible first | exact Imp.refl _ | (apply Imp.left; exact Imp.refl _) | (apply Imp.left; apply Imp.left; exact Imp.refl _))) | (apply EvC.now; exact rfl)); (first | (apply EvC.gv; exact rfl; (with_reducible first | exact Imp.refl _ | (apply Imp.left; exact Imp.refl _) | (apply Imp.left; apply Imp.left; exact Imp.refl _))) | (apply EvC.now; exact rfl)); exact rfl; (simp only [List.set_cons_succ, List.set_cons_zero]; exact rfl))
          | ((with_reducible apply wpT1_gnum); (first | (apply GdBy.gt; exact rfl; exact rfl) | (apply GdBy.gf; exact rfl; exact rfl) | (apply GdBy.t; exact rfl; exact rfl) | (apply GdBy.f; exact rfl; exact rfl)); (first | (apply EvC.gv; exact rfl; (with_reducible first | exact Imp.refl _ | (apply Imp.left; exact Imp.refl _) | (apply Imp.left; apply Imp.left; exact Imp.refl _))) | (apply EvC.now; exact rfl)); (first | (apply EvC.gv; exact rfl; (with_reducible first | exact Imp.refl _ | (apply Imp.left; exact Imp.refl _) | (apply Imp.left; apply Imp.left; exact Imp.refl _))) | (apply EvC.now; exact rfl)); exact rfl; (simp only [List.set_cons_succ, List.set_cons_zero]; exact rfl))
          | ((with_reducible apply wpT1_gnot); (first | (apply GdBy.gt; exact rfl; exact rfl) | (apply GdBy.gf; exact rfl; exact rfl) | (apply GdBy.t; exact rfl; exact rfl) | (apply GdBy.f; exact rfl; exact rfl)); (first | (apply EvC.gv; exact rfl; (with_reducible first | exact Imp.refl _ | (apply Imp.left; exact Imp.refl _) | (apply Imp.left; apply Imp.left; exact Imp.refl _))) | (apply EvC.now; exact rfl)); (simp only [List.set_cons_succ, List.set_cons_zero]; exact rfl))
          | ((with_reducible apply wpT1_gone tInt); (first | (apply GdBy.gt; exact rfl; exact rfl) | (apply GdBy.gf; exact rfl; exact rfl) | (apply GdBy.t; exact rfl; exact rfl) | (apply GdBy.f; exact rfl; exact rfl)); (first | (apply EvC.gv; exact rfl; (with_reducible first | exact Imp.refl _ | (apply Imp.left; exact Imp.refl _) | (apply Imp.left; apply Imp.left; exact Imp.refl _))) | (apply EvC.now; exact rfl)); (focus (repeat (first | apply List.Mem.head | apply List.Mem.tail))); exact rfl; (simp only [List.set_cons_succ, List.set_cons_zero]; exact rfl))
          | ((with_reducible apply wpT1_gone tWord); (first | (apply GdBy.gt; exact rfl; exact rfl) | (apply GdBy.gf; exact rfl; exact rfl) | (apply GdBy.t; exact rfl; exact rfl) | (apply GdBy.f; exact rfl; exact rfl)); (first | (apply EvC.gv; exact rfl; (with_reducible first | exact Imp.refl _ | (apply Imp.left; exact Imp.refl _) | (apply Imp.left; apply Imp.left; exact Imp.refl _))) | (apply EvC.now; exact rfl)); (focus (repeat (first | apply List.Mem.head | apply List.Mem.tail))); exact rfl; (simp only [List.set_cons_succ, List.set_cons_zero]; exact rfl))
          | ((with_reducible apply wpT1_gone tByte); (first | (apply GdBy.gt; exact rfl; exact rfl) | (apply GdBy.gf; exact rfl; exact rfl) | (apply GdBy.t; exact rfl; exact rfl) | (apply GdBy.f; exact rfl; exact rfl)); (first | (apply EvC.gv; exact rfl; (with_reducible first | exact Imp.refl _ | (apply Imp.left; exact Imp.refl _) | (apply Imp.left; apply Imp.left; exact Imp.refl _))) | (apply EvC.now; exact rfl)); (focus (repeat (first | apply List.Mem.head | apply List.Mem.tail))); exact rfl; (simp only [List.set_cons_succ, List.set_cons_zero]; exact rfl))
          | ((with_reducible apply wpT1_gone tBool); (first | (apply GdBy.gt; exact rfl; exact rfl) | (apply GdBy.gf; exact rfl; exact rfl) | (apply GdBy.t; exact rfl; exact rfl) | (apply GdBy.f; exact rfl; exact rfl)); (first | (apply EvC.gv; exact rfl; (with_reducible first | exact Imp.refl _ | (apply Imp.left; exact Imp.refl _) | (apply Imp.left; apply Imp.left; exact Imp.refl _))) | (apply EvC.now; exact rfl)); (focus (repeat (first | apply List.Mem.head | apply List.Mem.tail))); exact rfl; (simp only [List.set_cons_succ, List.set_cons_zero]; exact rfl))
          | ((with_reducible apply wpT1_gpart tInst); (first | (apply GdBy.gt; exact rfl; exact rfl) | (apply GdBy.gf; exact rfl; exact rfl) | (apply GdBy.t; exact rfl; exact rfl) | (apply GdBy.f; exact rfl; exact rfl)); (first | (apply EvC.gv; exact rfl; (with_reducible first | exact Imp.refl _ | (apply Imp.left; exact Imp.refl _) | (apply Imp.left; apply Imp.left; exact Imp.refl _))) | (apply EvC.now; exact rfl)); (focus (repeat (first | apply List.Mem.head | apply List.Mem.tail))); apply ext_inst; exact rfl; (simp only [List.set_cons_succ, List.set_cons_zero]; exact rfl))
          | ((with_reducible apply wpT1_gpart tRow); (first | (apply GdBy.gt; exact rfl; exact rfl) | (apply GdBy.gf; exact rfl; exact rfl) | (apply GdBy.t; exact rfl; exact rfl) | (apply GdBy.f; exact rfl; exact rfl)); (first | (apply EvC.gv; exact rfl; (with_reducible first | exact Imp.refl _ | (apply Imp.left; exact Imp.refl _) | (apply Imp.left; apply Imp.left; exact Imp.refl _))) | (apply EvC.now; exact rfl)); (focus (repeat (first | apply List.Mem.head | apply List.Mem.tail))); apply ext_row; exact rfl; (simp only [List.set_cons_succ, List.set_cons_zero]; exact rfl))
          | ((with_reducible apply wpT1_cmp); exact rfl; exact rfl; exact rfl; (simp only [List.set_cons_succ, List.set_cons_zero]; exact rfl))
          | ((with_reducible apply wpT1_not); exact rfl; (simp only [List.set_cons_succ, List.set_cons_zero]; exact rfl))
          | ((with_reducible apply wpT1_and); exact rfl; (first | (apply EvC.gv; exact rfl; (with_reducible first | exact Imp.refl _ | (apply Imp.left; exact Imp.refl _) | (apply Imp.left; apply Imp.left; exact Imp.refl _))) | (apply EvC.now; exact rfl)); (simp only [List.set_cons_succ, List.set_cons_zero]; exact rfl))
          | ((with_reducible apply wpT1_or); exact rfl; (first | (apply EvC.gv; exact rfl; (with_reducible first | exact Imp.refl _ | (apply Imp.left; exact Imp.refl _) | (apply Imp.left; apply Imp.left; exact Imp.refl _))) | (apply EvC.now; exact rfl)); (simp only [List.set_cons_succ, List.set_cons_zero]; exact rfl))
          | ((with_reducible apply wpT1_one tInt); exact rfl; exact rfl; (focus (repeat (first | apply List.Mem.head | apply List.Mem.tail))); exact rfl; (simp only [List.set_cons_succ, List.set_cons_zero]; exact rfl))
          | ((with_reducible apply wpT1_one tWord); exact rfl; exact rfl; (focus (repeat (first | apply List.Mem.head | apply List.Mem.tail))); exact rfl; (simp only [List.set_cons_succ, List.set_cons_zero]; exact rfl))
          | ((with_reducible apply wpT1_one tByte); exact rfl; exact rfl; (focus (repeat (first | apply List.Mem.head | apply List.Mem.tail))); exact rfl; (simp only [List.set_cons_succ, List.set_cons_zero]; exact rfl))
          | ((with_reducible apply wpT1_one tBool); exact rfl; exact rfl; (focus (repeat (first | apply List.Mem.head | apply List.Mem.tail))); exact rfl; (simp only [List.set_cons_succ, List.set_cons_zero]; exact rfl))
          | ((with_reducible apply wpT1_part tInst); exact rfl; exact rfl; (focus (repeat (first | apply List.Mem.head | apply List.Mem.tail))); apply ext_inst; exact rfl; (simp only [List.set_cons_succ, List.set_cons_zero]; exact rfl))
          | ((with_reducible apply wpT1_part tRow); exact rfl; exact rfl; (focus (repeat (first | apply List.Mem.head | apply List.Mem.tail))); apply ext_row; exact rfl; (simp only [List.set_cons_succ, List.set_cons_zero]; exact rfl))
          | ((with_reducible apply wpT1_move); exact rfl; exact rfl; (simp only [List.set_cons_succ, List.set_cons_zero]; exact rfl))
          | ((with_reducible apply wpT1_assign); exact rfl; exact rfl; (simp only [List.set_cons_succ, List.set_cons_zero]; exact rfl))
          | ((with_reducible apply wpT1_pick); exact rfl; exact rfl; exact rfl; (simp only [List.set_cons_succ, List.set_cons_zero]; exact rfl))
          | ((with_reducible apply wpT1_gpure); (first | (apply GdBy.gt; exact rfl; exact rfl) | (apply GdBy.gf; exact rfl; exact rfl) | (apply GdBy.t; exact rfl; exact rfl) | (apply GdBy.f; exact rfl; exact rfl)); intro K hK; go_simp; refine hK _ ?_; clear hK K; simp only [List.set_cons_succ, List.set_cons_zero])
          | ((with_reducible apply wpT1_pure); exact rfl; intro K hK; go_simp; refine hK _ ?_; clear hK K; simp only [List.set_cons_succ, List.set_cons_zero]))
      refine wpG_put1 hR tInt (i := 5) (by kernel_rfl) rfl rfl rfl (by (focus (repeat (first | apply List.Mem.head | apply List.Mem.tail)))) (put_mod _ _) (by simp [encI]) rfl (by (focus (repeat (first | apply Upd.head | apply Upd.tail)))) (by (focus (repeat (first | exact List.Sublist.slnil | apply List.Sublist.cons_cons | apply List.Sublist.cons)))) ?_
      clear hR; intro w hR
      refine wpG_addr hR (fInst 6 (by decide)) (i := 6) (by kernel_rfl) rfl rfl (by simp only [List.set_cons_succ, List.set_cons_zero]; exact rfl) ?_
      clear hR; intro w hR
      refine wpG_put1 hR tInt (i := 7) (by kernel_rfl) rfl rfl rfl (by (focus (repeat (first | apply List.Mem.head | apply List.Mem.tail)))) (put_rm _ _) (by simp [encI]) rfl (by (focus (repeat (first | apply Upd.head | apply Upd.tail)))) (by (focus (repeat (first | exact List.Sublist.slnil | apply List.Sublist.cons_cons | apply List.Sublist.cons)))) ?_
      clear hR; intro w hR
      refine wpG_end hR (by kernel_rfl) ?_
      clear hR; intro w hR
      go_wp2
      go_meet
      exact ⟨_, (hj.put_mod hx.mod).put_rm hx.rm, hR⟩
    · go_wp2_with (first
    | ((with_reducible apply wpList_box hR); exact rfl; exact rfl; clear hR; intro g1 w hR; simp only [List.set_cons_succ, List.set_cons_zero])
    | ((with_reducible apply wpList_make hR zInst); exact rfl; clear hR; intro g2 w hR; simp only [List.set_cons_succ, List.set_cons_zero])
    | ((with_reducible apply wpList_addr (fInst _ (by decide))); exact rfl; (simp only [List.set_cons_succ, List.set_cons_zero]; exact rfl))
    | ((with_reducible apply wpList_addr (fRow _ (by decide))); exact rfl; (simp only [List.set_cons_succ, List.set_cons_zero]; exact rfl))
    | ((with_reducible apply wpList_box hR); exact rfl; exact rfl; clear hR; intro g w hR; simp only [List.set_cons_succ, List.set_cons_zero])
    | ((with_reducible apply wpList_make hR zInst); exact rfl; clear hR; intro g w hR; simp only [List.set_cons_succ, List.set_cons_zero])
    | ((with_reducible apply wpList_make hR zRow); exact rfl; clear hR; intro g w hR; simp only [List.set_cons_succ, List.set_cons_zero])
    | ((with_reducible apply wpList_part hR tInst); exact rfl; exact rfl; (focus (repeat (first | apply List.Mem.head | apply List.Mem.tail))); apply ext_inst; exact rfl; (simp only [List.set_cons_succ, List.set_cons_zero]; exact rfl))
    | ((with_reducible apply wpList_part hR tRow); exact rfl; exact rfl; (focus (repeat (first | apply List.Mem.head | apply List.Mem.tail))); apply ext_row; exact rfl; (simp only [List.set_cons_succ, List.set_cons_zero]; exact rfl))
    | ((with_reducible apply wpList_one hR tInt); exact rfl; exact rfl; (focus (repeat (first | apply List.Mem.head | apply List.Mem.tail))); exact rfl; (simp only [List.set_cons_succ, List.set_cons_zero]; exact rfl))
    | ((with_reducible apply wpList_one hR tWord); exact rfl; exact rfl; (focus (repeat (first | apply List.Mem.head | apply List.Mem.tail))); exact rfl; (simp only [List.set_cons_succ, List.set_cons_zero]; exact rfl))
    | ((with_reducible apply wpList_one hR tByte); exact rfl; exact rfl; (focus (repeat (first | apply List.Mem.head | apply List.Mem.tail))); exact rfl; (simp only [List.set_cons_succ, List.set_cons_zero]; exact rfl))
    | ((with_reducible apply wpList_one hR tBool); exact rfl; exact rfl; (focus (repeat (first | apply List.Mem.head | apply List.Mem.tail))); exact rfl; (simp only [List.set_cons_succ, List.set_cons_zero]; exact rfl))
    | ((with_reducible apply wpList_put hR tInst); exact rfl; exact rfl; exact rfl; (focus (repeat (first | apply List.Mem.head | apply List.Mem.tail))); apply put_inst; exact rfl; simp [encI]; apply one_inst; (focus (repeat (first | apply Upd.head | apply Upd.tail))); clear hR; intro w hR)
    | ((with_reducible apply wpList_put hR tRow); exact rfl; exact rfl; exact rfl; (focus (repeat (first | apply List.Mem.head | apply List.Mem.tail))); apply put_row; exact rfl; simp [encR]; apply one_row; (focus (repeat (first | apply Upd.head | apply Upd.tail))); clear hR; intro w hR)
    | ((with_reducible apply wpList_built); exact rfl; exact rfl; (first | exact bInst1 _ | exact bInst2 _ _ | exact bInst3 _ _ | exact bRow0); (simp only [List.set_cons_succ, List.set_cons_zero]; exact rfl))
    | ((with_reducible apply wpList_put1 hR tInt); exact rfl; exact rfl; exact rfl; (focus (repeat (first | apply List.Mem.head | apply List.Mem.tail))); (first | apply put_rep | apply put_seg | apply put_mod | apply put_reg | apply put_rm | apply put_disp | apply put_imm | apply put_sel); simp [encI]; exact rfl; (focus (repeat (first | apply Upd.head | apply Upd.tail))); clear hR; intro w hR)
    | ((with_reducible apply wpList_put1 hR tWord); exact rfl; exact rfl; exact rfl; (focus (repeat (first | apply List.Mem.head | apply List.Mem.tail))); (first | apply put_rep | apply put_seg | apply put_mod | apply put_reg | apply put_rm | apply put_disp | apply put_imm | apply put_sel); simp [encI]; exact rfl; (focus (repeat (first | apply Upd.head | apply Upd.tail))); clear hR; intro w hR))
      go_meet
      exact ⟨_, hj.put_disp hx.disp, hR⟩
    · go_wp2_with (first
    | ((with_reducible apply wpList_box hR); exact rfl; exact rfl; clear hR; intro g1 w hR; simp only [List.set_cons_succ, List.set_cons_zero])
    | ((with_reducible apply wpList_make hR zInst); exact rfl; clear hR; intro g2 w hR; simp only [List.set_cons_succ, List.set_cons_zero])
    | ((with_reducible apply wpList_addr (fInst _ (by decide))); exact rfl; (simp only [List.set_cons_succ, List.set_cons_zero]; exact rfl))
    | ((with_reducible apply wpList_addr (fRow _ (by decide))); exact rfl; (simp only [List.set_cons_succ, List.set_cons_zero]; exact rfl))
    | ((with_reducible apply wpList_box hR); exact rfl; exact rfl; clear hR; intro g w hR; simp only [List.set_cons_succ, List.set_cons_zero])
    | ((with_reducible apply wpList_make hR zInst); exact rfl; clear hR; intro g w hR; simp only [List.set_cons_succ, List.set_cons_zero])
    | ((with_reducible apply wpList_make hR zRow); exact rfl; clear hR; intro g w hR; simp only [List.set_cons_succ, List.set_cons_zero])
    | ((with_reducible apply wpList_part hR tInst); exact rfl; exact rfl; (focus (repeat (first | apply List.Mem.head | apply List.Mem.tail))); apply ext_inst; exact rfl; (simp only [List.set_cons_succ, List.set_cons_zero]; exact rfl))
    | ((with_reducible apply wpList_part hR tRow); exact rfl; exact rfl; (focus (repeat (first | apply List.Mem.head | apply List.Mem.tail))); apply ext_row; exact rfl; (simp only [List.set_cons_succ, List.set_cons_zero]; exact rfl))
    | ((with_reducible apply wpList_one hR tInt); exact rfl; exact rfl; (focus (repeat (first | apply List.Mem.head | apply List.Mem.tail))); exact rfl; (simp only [List.set_cons_succ, List.set_cons_zero]; exact rfl))
    | ((with_reducible apply wpList_one hR tWord); exact rfl; exact rfl; (focus (repeat (first | apply List.Mem.head | apply List.Mem.tail))); exact rfl; (simp only [List.set_cons_succ, List.set_cons_zero]; exact rfl))
    | ((with_reducible apply wpList_one hR tByte); exact rfl; exact rfl; (focus (repeat (first | apply List.Mem.head | apply List.Mem.tail))); exact rfl; (simp only [List.set_cons_succ, List.set_cons_zero]; exact rfl))
    | ((with_reducible apply wpList_one hR tBool); exact rfl; exact rfl; (focus (repeat (first | apply List.Mem.head | apply List.Mem.tail))); exact rfl; (simp only [List.set_cons_succ, List.set_cons_zero]; exact rfl))
    | ((with_reducible apply wpList_put hR tInst); exact rfl; exact rfl; exact rfl; (focus (repeat (first | apply List.Mem.head | apply List.Mem.tail))); apply put_inst; exact rfl; simp [encI]; apply one_inst; (focus (repeat (first | apply Upd.head | apply Upd.tail))); clear hR; intro w hR)
    | ((with_reducible apply wpList_put hR tRow); exact rfl; exact rfl; exact rfl; (focus (repeat (first | apply List.Mem.head | apply List.Mem.tail))); apply put_row; exact rfl; simp [encR]; apply one_row; (focus (repeat (first | apply Upd.head | apply Upd.tail))); clear hR; intro w hR)
    | ((with_reducible apply wpList_built); exact rfl; exact rfl; (first | exact bInst1 _ | exact bInst2 _ _ | exact bInst3 _ _ | exact bRow0); (simp only [List.set_cons_succ, List.set_cons_zero]; exact rfl))
    | ((with_reducible apply wpList_put1 hR tInt); exact rfl; exact rfl; exact rfl; (focus (repeat (first | apply List.Mem.head | apply List.Mem.tail))); (first | apply put_rep | apply put_seg | apply put_mod | apply put_reg | apply put_rm | apply put_disp | apply put_imm | apply put_sel); simp [encI]; exact rfl; (focus (repeat (first | apply Upd.head | apply Upd.tail))); clear hR; intro w hR)
    | ((with_reducible apply wpList_put1 hR tWord); exact rfl; exact rfl; exact rfl; (focus (repeat (first | apply List.Mem.head | apply List.Mem.tail))); (first | apply put_rep | apply put_seg | apply put_mod | apply put_reg | apply put_rm | apply put_disp | apply put_imm | apply put_sel); simp [encI]; exact rfl; (focus (repeat (first | apply Upd.head | apply Upd.tail))); clear hR; intro w hR))
      go_meet
      exact ⟨_, hj.put_imm hx.imm, hR⟩
    · go_upto_region 12 with fail
      refine wp_region_some hR [(g1, encI x, 24)] (by (focus (repeat (first | exact List.Sublist.slnil | apply List.Sublist.cons_cons | apply List.Sublist.cons)))) [0, 1, 2, 3, 4] 3 (by kernel_rfl) (by kernel_rfl) (by kernel_rfl) rfl ?_
      clear hR; intro hR
      repeat (refine wpT_step rfl ?_; first
          | ((with_reducible apply wpT1_gaddr (fInst _ (by decide))); (first | (apply GdBy.gt; exact rfl; exact rfl) | (apply GdBy.gf; exact rfl; exact rfl) | (apply GdBy.t; exact rfl; exact rfl) | (apply GdBy.f; exact rfl; exact rfl)); (first | (apply EvC.gv; exact rfl; (with_reducible first | exact Imp.refl _ | (apply Imp.left; exact Imp.refl _) | (apply Imp.left; apply Imp.left; exact Imp.refl _))) | (apply EvC.now; exact rfl)); (simp only [List.set_cons_succ, List.set_cons_zero]; exact rfl))
          | ((with_reducible apply wpT1_gaddr (fRow _ (by decide))); (first | (apply GdBy.gt; exact rfl; exact rfl) | (apply GdBy.gf; exact rfl; exact rfl) | (apply GdBy.t; exact rfl; exact rfl) | (apply GdBy.f; exact rfl; exact rfl)); (first | (apply EvC.gv; exact rfl; (with_reducible first | exact Imp.refl _ | (apply Imp.left; exact Imp.refl _) | (apply Imp.left; apply Imp.left; exact Imp.refl _))) | (apply EvC.now; exact rfl)); (simp only [List.set_cons_succ, List.set_cons_zero]; exact rfl))
          | ((with_reducible apply wpT1_addr (fInst _ (by decide))); exact rfl; (simp only [List.set_cons_succ, List.set_cons_zero]; exact rfl))
          | ((with_reducible apply wpT1_addr (fRow _ (by decide))); exact rfl; (simp only [List.set_cons_succ, List.set_cons_zero]; exact rfl))
          | ((with_reducible apply wpT1_gmove); (first | (apply GdBy.gt; exact rfl; exact rfl) | (apply GdBy.gf; exact rfl; exact rfl) | (apply GdBy.t; exact rfl; exact rfl) | (apply GdBy.f; exact rfl; exact rfl)); (first | (apply EvC.gv; exact rfl; (with_reducible first | exact Imp.refl _ | (apply Imp.left; exact Imp.refl _) | (apply Imp.left; apply Imp.left; exact Imp.refl _))) | (apply EvC.now; exact rfl)); (simp only [List.set_cons_succ, List.set_cons_zero]; exact rfl))
          | ((with_reducible apply wpT1_gand); (first | (apply GdBy.gt; exact rfl; exact rfl) | (apply GdBy.gf; exact rfl; exact rfl) | (apply GdBy.t; exact rfl; exact rfl) | (apply GdBy.f; exact rfl; exact rfl)); (first | (apply EvC.gv; exact rfl; (with_reducible first | exact Imp.refl _ | (apply Imp.left; exact Imp.refl _) | (apply Imp.left; apply Imp.left; exact Imp.refl _))) | (apply EvC.now; exact rfl)); (first | (apply EvC.gv; exact rfl; (with_reducible first | exact Imp.refl _ | (apply Imp.left; exact Imp.refl _) | (apply Imp.left; apply Imp.left; exact Imp.refl _))) | (apply EvC.now; exact rfl)); (simp only [List.set_cons_succ, List.set_cons_zero]; exact rfl))
          | ((with_reducible apply wpT1_gor); (first | (apply GdBy.gt; exact rfl; exact rfl) | (apply GdBy.gf; exact rfl; exact rfl) | (apply GdBy.t; exact rfl; exact rfl) | (apply GdBy.f; exact rfl; exact rfl)); (first | (apply EvC.gv; exact rfl; (with_reducible first | exact Imp.refl _ | (apply Imp.left; exact Imp.refl _) | (apply Imp.left; apply Imp.left; exact Imp.refl _))) | (apply EvC.now; exact rfl)); (first | (apply EvC.gv; exact rfl; (with_reducible first | exact Imp.refl _ | (apply Imp.left; exact Imp.refl _) | (apply Imp.left; apply Imp.left; exact Imp.refl _))) | (apply EvC.now; exact rfl)); (simp only [List.set_cons_succ, List.set_cons_zero]; exact rfl))
          | ((with_reducible apply wpT1_gcmp); (first | (apply GdBy.gt; exact rfl; exact rfl) | (apply GdBy.gf; exact rfl; exact rfl) | (apply GdBy.t; exact rfl; exact rfl) | (apply GdBy.f; exact rfl; exact rfl)); (first | (apply EvC.gv; exact rfl; (with_reducible first | exact Imp.refl _ | (apply Imp.left; exact Imp.refl _) | (apply Imp.left; apply Imp.left; exact Imp.refl _))) | (apply EvC.now; exact rfl)); (first | (apply EvC.gv; exact rfl; (with_reducible first | exact Imp.refl _ | (apply Imp.left; exact Imp.refl _) | (apply Imp.left; apply Imp.left; exact Imp.refl _))) | (apply EvC.now; exact rfl)); exact rfl; (simp only [List.set_cons_succ, List.set_cons_zero]; exact rfl))
          | ((with_reducible apply wpT1_gnum); (first | (apply GdBy.gt; exact rfl; exact rfl) | (apply GdBy.gf; exact rfl; exact rfl) | (apply GdBy.t; exact rfl; exact rfl) | (apply GdBy.f; exact rfl; exact rfl)); (first | (apply EvC.gv; exact rfl; (with_reducible first | exact Imp.refl _ | (apply Imp.left; exact Imp.refl _) | (apply Imp.left; apply Imp.left; exact Imp.refl _))) | (apply EvC.now; exact rfl)); (first | (apply EvC.gv; exact rfl; (with_reducible first | exact Imp.refl _ | (apply Imp.left; exact Imp.refl _) | (apply Imp.left; apply Imp.left; exact Imp.refl _))) | (apply EvC.now; exact rfl)); exact rfl; (simp only [List.set_cons_succ, List.set_cons_zero]; exact rfl))
          | ((with_reducible apply wpT1_gnot); (first | (apply GdBy.gt; exact rfl; exact rfl) | (apply GdBy.gf; exact rfl; exact rfl) | (apply GdBy.t; exact rfl; exact rfl) | (apply GdBy.f; exact rfl; exact rfl)); (first | (apply EvC.gv; exact rfl; (with_reducible first | exact Imp.refl _ | (apply Imp.left; exact Imp.refl _) | (apply Imp.left; apply Imp.left; exact Imp.refl _))) | (apply EvC.now; exact rfl)); (simp only [List.set_cons_succ, List.set_cons_zero]; exact rfl))
          | ((with_reducible apply wpT1_gone tInt); (first | (apply GdBy.gt; exact rfl; exact rfl) | (apply GdBy.gf; exact rfl; exact rfl) | (apply GdBy.t; exact rfl; exact rfl) | (apply GdBy.f; exact rfl; exact rfl)); (first | (apply EvC.gv; exact rfl; (with_reducible first | exact Imp.refl _ | (apply Imp.left; exact Imp.refl _) | (apply Imp.left; apply Imp.left; exact Imp.refl _))) | (apply EvC.now; exact rfl)); (focus (repeat (first | apply List.Mem.head | apply List.Mem.tail))); exact rfl; (simp only [List.set_cons_succ, List.set_cons_zero]; exact rfl))
          | ((with_reducible apply wpT1_gone tWord); (first | (apply GdBy.gt; exact rfl; exact rfl) | (apply GdBy.gf; exact rfl; exact rfl) | (apply GdBy.t; exact rfl; exact rfl) | (apply GdBy.f; exact rfl; exact rfl)); (first | (apply EvC.gv; exact rfl; (with_reducible first | exact Imp.refl _ | (apply Imp.left; exact Imp.refl _) | (apply Imp.left; apply Imp.left; exact Imp.refl _))) | (apply EvC.now; exact rfl)); (focus (repeat (first | apply List.Mem.head | apply List.Mem.tail))); exact rfl; (simp only [List.set_cons_succ, List.set_cons_zero]; exact rfl))
          | ((with_reducible apply wpT1_gone tByte); (first | (apply GdBy.gt; exact rfl; exact rfl) | (apply GdBy.gf; exact rfl; exact rfl) | (apply GdBy.t; exact rfl; exact rfl) | (apply GdBy.f; exact rfl; exact rfl)); (first | (apply EvC.gv; exact rfl; (with_reducible first | exact Imp.refl _ | (apply Imp.left; exact Imp.refl _) | (apply Imp.left; apply Imp.left; exact Imp.refl _))) | (apply EvC.now; exact rfl)); (focus (repeat (first | apply List.Mem.head | apply List.Mem.tail))); exact rfl; (simp only [List.set_cons_succ, List.set_cons_zero]; exact rfl))
          | ((with_reducible apply wpT1_gone tBool); (first | (apply GdBy.gt; exact rfl; exact rfl) | (apply GdBy.gf; exact rfl; exact rfl) | (apply GdBy.t; exact rfl; exact rfl) | (apply GdBy.f; exact rfl; exact rfl)); (first | (apply EvC.gv; exact rfl; (with_reducible first | exact Imp.refl _ | (apply Imp.left; exact Imp.refl _) | (apply Imp.left; apply Imp.left; exact Imp.refl _))) | (apply EvC.now; exact rfl)); (focus (repeat (first | apply List.Mem.head | apply List.Mem.tail))); exact rfl; (simp only [List.set_cons_succ, List.set_cons_zero]; exact rfl))
          | ((with_reducible apply wpT1_gpart tInst); (first | (apply GdBy.gt; exact rfl; exact rfl) | (apply GdBy.gf; exact rfl; exact rfl) | (apply GdBy.t; exact rfl; exact rfl) | (apply GdBy.f; exact rfl; exact rfl)); (first | (apply EvC.gv; exact rfl; (with_reducible first | exact Imp.refl _ | (apply Imp.left; exact Imp.refl _) | (apply Imp.left; apply Imp.left; exact Imp.refl _))) | (apply EvC.now; exact rfl)); (focus (repeat (first | apply List.Mem.head | apply List.Mem.tail))); apply ext_inst; exact rfl; (simp only [List.set_cons_succ, List.set_cons_zero]; exact rfl))
          | ((with_reducible apply wpT1_gpart tRow); (first | (apply GdBy.gt; exact rfl; exact rfl) | (apply GdBy.gf; exact rfl; exact rfl) | (apply GdBy.t; exact rfl; exact rfl) | (apply GdBy.f; exact rfl; exact rfl)); (first | (apply EvC.gv; exact rfl; (with_reducible first | exact Imp.refl _ | (apply Imp.left; exact Imp.refl _) | (apply Imp.left; apply Imp.left; exact Imp.refl _))) | (apply EvC.now; exact rfl)); (focus (repeat (first | apply List.Mem.head | apply List.Mem.tail))); apply ext_row; exact rfl; (simp only [List.set_cons_succ, List.set_cons_zero]; exact rfl))
          | ((with_reducible apply wpT1_cmp); exact rfl; exact rfl; exact rfl; (simp only [List.set_cons_succ, List.set_cons_zero]; exact rfl))
          | ((with_reducible apply wpT1_not); exact rfl; (simp only [List.set_cons_succ, List.set_cons_zero]; exact rfl))
          | ((with_reducible apply wpT1_and); exact rfl; (first | (apply EvC.gv; exact rfl; (with_reducible first | exact Imp.refl _ | (apply Imp.left; exact Imp.refl _) | (apply Imp.left; apply Imp.left; exact Imp.refl _))) | (apply EvC.now; exact rfl)); (simp only [List.set_cons_succ, List.set_cons_zero]; exact rfl))
          | ((with_reducible apply wpT1_or); exact rfl; (first | (apply EvC.gv; exact rfl; (with_reducible first | exact Imp.refl _ | (apply Imp.left; exact Imp.refl _) | (apply Imp.left; apply Imp.left; exact Imp.refl _))) | (apply EvC.now; exact rfl)); (simp only [List.set_cons_succ, List.set_cons_zero]; exact rfl))
          | ((with_reducible apply wpT1_one tInt); exact rfl; exact rfl; (focus (repeat (first | apply List.Mem.head | apply List.Mem.tail))); exact rfl; (simp only [List.set_cons_succ, List.set_cons_zero]; exact rfl))
          | ((with_reducible apply wpT1_one tWord); exact rfl; exact rfl; (focus (repeat (first | apply List.Mem.head | apply List.Mem.tail))); exact rfl; (simp only [List.set_cons_succ, List.set_cons_zero]; exact rfl))
          | ((with_reducible apply wpT1_one tByte); exact rfl; exact rfl; (focus (repeat (first | apply List.Mem.head | apply List.Mem.tail))); exact rfl; (simp only [List.set_cons_succ, List.set_cons_zero]; exact rfl))
          | ((with_reducible apply wpT1_one tBool); exact rfl; exact rfl; (focus (repeat (first | apply List.Mem.head | apply List.Mem.tail))); exact rfl; (simp only [List.set_cons_succ, List.set_cons_zero]; exact rfl))
          | ((with_reducible apply wpT1_part tInst); exact rfl; exact rfl; (focus (repeat (first | apply List.Mem.head | apply List.Mem.tail))); apply ext_inst; exact rfl; (simp only [List.set_cons_succ, List.set_cons_zero]; exact rfl))
          | ((with_reducible apply wpT1_part tRow); exact rfl; exact rfl; (focus (repeat (first | apply List.Mem.head | apply List.Mem.tail))); apply ext_row; exact rfl; (simp only [List.set_cons_succ, List.set_cons_zero]; exact rfl))
          | ((with_reducible apply wpT1_move); exact rfl; exact rfl; (simp only [List.set_cons_succ, List.set_cons_zero]; exact rfl))
          | ((with_reducible apply wpT1_assign); exact rfl; exact rfl; (simp only [List.set_cons_succ, List.set_cons_zero]; exact rfl))
          | ((with_reducible apply wpT1_pick); exact rfl; exact rfl; exact rfl; (simp only [List.set_cons_succ, List.set_cons_zero]; exact rfl))
          | ((with_reducible apply wpT1_gpure); (first | (apply GdBy.gt; exact rfl; exact rfl) | (apply GdBy.gf; exact rfl; exact rfl) | (apply GdBy.t; exact rfl; exact rfl) | (apply GdBy.f; exact rfl; exact rfl)); intro K hK; go_simp; refine hK _ ?_; clear hK K; simp only [List.set_cons_succ, List.set_cons_zero])
          | ((with_reducible apply wpT1_pure); exact rfl; intro K hK; go_simp; refine hK _ ?_; clear hK K; simp only [List.set_cons_succ, List.set_cons_zero]))
      refine wpG_put1 hR tInt (i := 5) (by kernel_rfl) rfl rfl rfl (by (focus (repeat (first | apply List.Mem.head | apply List.Mem.tail)))) (put_rep _ _) (by simp [encI]) rfl (by (focus (repeat (first | apply Upd.head | apply Upd.tail)))) (by (focus (repeat (first | exact List.Sublist.slnil | apply List.Sublist.cons_cons | apply List.Sublist.cons)))) ?_
      clear hR; intro w hR
      refine wpG_addr hR (fInst 2 (by decide)) (i := 6) (by kernel_rfl) rfl rfl (by simp only [List.set_cons_succ, List.set_cons_zero]; exact rfl) ?_
      clear hR; intro w hR
      refine wpG_put1 hR tInt (i := 7) (by kernel_rfl) rfl rfl rfl (by (focus (repeat (first | apply List.Mem.head | apply List.Mem.tail)))) (put_seg _ _) (by simp [encI]) rfl (by (focus (repeat (first | apply Upd.head | apply Upd.tail)))) (by (focus (repeat (first | exact List.Sublist.slnil | apply List.Sublist.cons_cons | apply List.Sublist.cons)))) ?_
      clear hR; intro w hR
      refine wpG_end hR (by kernel_rfl) ?_
      clear hR; intro w hR
      go_wp2
      go_meet
      exact ⟨_, (hj.put_rep hx.rep).put_seg hx.seg, hR⟩
    · go_wp2_with (first
    | ((with_reducible apply wpList_box hR); exact rfl; exact rfl; clear hR; intro g1 w hR; simp only [List.set_cons_succ, List.set_cons_zero])
    | ((with_reducible apply wpList_make hR zInst); exact rfl; clear hR; intro g2 w hR; simp only [List.set_cons_succ, List.set_cons_zero])
    | ((with_reducible apply wpList_addr (fInst _ (by decide))); exact rfl; (simp only [List.set_cons_succ, List.set_cons_zero]; exact rfl))
    | ((with_reducible apply wpList_addr (fRow _ (by decide))); exact rfl; (simp only [List.set_cons_succ, List.set_cons_zero]; exact rfl))
    | ((with_reducible apply wpList_box hR); exact rfl; exact rfl; clear hR; intro g w hR; simp only [List.set_cons_succ, List.set_cons_zero])
    | ((with_reducible apply wpList_make hR zInst); exact rfl; clear hR; intro g w hR; simp only [List.set_cons_succ, List.set_cons_zero])
    | ((with_reducible apply wpList_make hR zRow); exact rfl; clear hR; intro g w hR; simp only [List.set_cons_succ, List.set_cons_zero])
    | ((with_reducible apply wpList_part hR tInst); exact rfl; exact rfl; (focus (repeat (first | apply List.Mem.head | apply List.Mem.tail))); apply ext_inst; exact rfl; (simp only [List.set_cons_succ, List.set_cons_zero]; exact rfl))
    | ((with_reducible apply wpList_part hR tRow); exact rfl; exact rfl; (focus (repeat (first | apply List.Mem.head | apply List.Mem.tail))); apply ext_row; exact rfl; (simp only [List.set_cons_succ, List.set_cons_zero]; exact rfl))
    | ((with_reducible apply wpList_one hR tInt); exact rfl; exact rfl; (focus (repeat (first | apply List.Mem.head | apply List.Mem.tail))); exact rfl; (simp only [List.set_cons_succ, List.set_cons_zero]; exact rfl))
    | ((with_reducible apply wpList_one hR tWord); exact rfl; exact rfl; (focus (repeat (first | apply List.Mem.head | apply List.Mem.tail))); exact rfl; (simp only [List.set_cons_succ, List.set_cons_zero]; exact rfl))
    | ((with_reducible apply wpList_one hR tByte); exact rfl; exact rfl; (focus (repeat (first | apply List.Mem.head | apply List.Mem.tail))); exact rfl; (simp only [List.set_cons_succ, List.set_cons_zero]; exact rfl))
    | ((with_reducible apply wpList_one hR tBool); exact rfl; exact rfl; (focus (repeat (first | apply List.Mem.head | apply List.Mem.tail))); exact rfl; (simp only [List.set_cons_succ, List.set_cons_zero]; exact rfl))
    | ((with_reducible apply wpList_put hR tInst); exact rfl; exact rfl; exact rfl; (focus (repeat (first | apply List.Mem.head | apply List.Mem.tail))); apply put_inst; exact rfl; simp [encI]; apply one_inst; (focus (repeat (first | apply Upd.head | apply Upd.tail))); clear hR; intro w hR)
    | ((with_reducible apply wpList_put hR tRow); exact rfl; exact rfl; exact rfl; (focus (repeat (first | apply List.Mem.head | apply List.Mem.tail))); apply put_row; exact rfl; simp [encR]; apply one_row; (focus (repeat (first | apply Upd.head | apply Upd.tail))); clear hR; intro w hR)
    | ((with_reducible apply wpList_built); exact rfl; exact rfl; (first | exact bInst1 _ | exact bInst2 _ _ | exact bInst3 _ _ | exact bRow0); (simp only [List.set_cons_succ, List.set_cons_zero]; exact rfl))
    | ((with_reducible apply wpList_put1 hR tInt); exact rfl; exact rfl; exact rfl; (focus (repeat (first | apply List.Mem.head | apply List.Mem.tail))); (first | apply put_rep | apply put_seg | apply put_mod | apply put_reg | apply put_rm | apply put_disp | apply put_imm | apply put_sel); simp [encI]; exact rfl; (focus (repeat (first | apply Upd.head | apply Upd.tail))); clear hR; intro w hR)
    | ((with_reducible apply wpList_put1 hR tWord); exact rfl; exact rfl; exact rfl; (focus (repeat (first | apply List.Mem.head | apply List.Mem.tail))); (first | apply put_rep | apply put_seg | apply put_mod | apply put_reg | apply put_rm | apply put_disp | apply put_imm | apply put_sel); simp [encI]; exact rfl; (focus (repeat (first | apply Upd.head | apply Upd.tail))); clear hR; intro w hR))
      go_meet
      exact ⟨_, hj.put_sel hx.sel, hR⟩
    · go_wp2_with (first
    | ((with_reducible apply wpList_box hR); exact rfl; exact rfl; clear hR; intro g1 w hR; simp only [List.set_cons_succ, List.set_cons_zero])
    | ((with_reducible apply wpList_make hR zInst); exact rfl; clear hR; intro g2 w hR; simp only [List.set_cons_succ, List.set_cons_zero])
    | ((with_reducible apply wpList_addr (fInst _ (by decide))); exact rfl; (simp only [List.set_cons_succ, List.set_cons_zero]; exact rfl))
    | ((with_reducible apply wpList_addr (fRow _ (by decide))); exact rfl; (simp only [List.set_cons_succ, List.set_cons_zero]; exact rfl))
    | ((with_reducible apply wpList_box hR); exact rfl; exact rfl; clear hR; intro g w hR; simp only [List.set_cons_succ, List.set_cons_zero])
    | ((with_reducible apply wpList_make hR zInst); exact rfl; clear hR; intro g w hR; simp only [List.set_cons_succ, List.set_cons_zero])
    | ((with_reducible apply wpList_make hR zRow); exact rfl; clear hR; intro g w hR; simp only [List.set_cons_succ, List.set_cons_zero])
    | ((with_reducible apply wpList_part hR tInst); exact rfl; exact rfl; (focus (repeat (first | apply List.Mem.head | apply List.Mem.tail))); apply ext_inst; exact rfl; (simp only [List.set_cons_succ, List.set_cons_zero]; exact rfl))
    | ((with_reducible apply wpList_part hR tRow); exact rfl; exact rfl; (focus (repeat (first | apply List.Mem.head | apply List.Mem.tail))); apply ext_row; exact rfl; (simp only [List.set_cons_succ, List.set_cons_zero]; exact rfl))
    | ((with_reducible apply wpList_one hR tInt); exact rfl; exact rfl; (focus (repeat (first | apply List.Mem.head | apply List.Mem.tail))); exact rfl; (simp only [List.set_cons_succ, List.set_cons_zero]; exact rfl))
    | ((with_reducible apply wpList_one hR tWord); exact rfl; exact rfl; (focus (repeat (first | apply List.Mem.head | apply List.Mem.tail))); exact rfl; (simp only [List.set_cons_succ, List.set_cons_zero]; exact rfl))
    | ((with_reducible apply wpList_one hR tByte); exact rfl; exact rfl; (focus (repeat (first | apply List.Mem.head | apply List.Mem.tail))); exact rfl; (simp only [List.set_cons_succ, List.set_cons_zero]; exact rfl))
    | ((with_reducible apply wpList_one hR tBool); exact rfl; exact rfl; (focus (repeat (first | apply List.Mem.head | apply List.Mem.tail))); exact rfl; (simp only [List.set_cons_succ, List.set_cons_zero]; exact rfl))
    | ((with_reducible apply wpList_put hR tInst); exact rfl; exact rfl; exact rfl; (focus (repeat (first | apply List.Mem.head | apply List.Mem.tail))); apply put_inst; exact rfl; simp [encI]; apply one_inst; (focus (repeat (first | apply Upd.head | apply Upd.tail))); clear hR; intro w hR)
    | ((with_reducible apply wpList_put hR tRow); exact rfl; exact rfl; exact rfl; (focus (repeat (first | apply List.Mem.head | apply List.Mem.tail))); apply put_row; exact rfl; simp [encR]; apply one_row; (focus (repeat (first | apply Upd.head | apply Upd.tail))); clear hR; intro w hR)
    | ((with_reducible apply wpList_built); exact rfl; exact rfl; (first | exact bInst1 _ | exact bInst2 _ _ | exact bInst3 _ _ | exact bRow0); (simp only [List.set_cons_succ, List.set_cons_zero]; exact rfl))
    | ((with_reducible apply wpList_put1 hR tInt); exact rfl; exact rfl; exact rfl; (focus (repeat (first | apply List.Mem.head | apply List.Mem.tail))); (first | apply put_rep | apply put_seg | apply put_mod | apply put_reg | apply put_rm | apply put_disp | apply put_imm | apply put_sel); simp [encI]; exact rfl; (focus (repeat (first | apply Upd.head | apply Upd.tail))); clear hR; intro w hR)
    | ((with_reducible apply wpList_put1 hR tWord); exact rfl; exact rfl; exact rfl; (focus (repeat (first | apply List.Mem.head | apply List.Mem.tail))); (first | apply put_rep | apply put_seg | apply put_mod | apply put_reg | apply put_rm | apply put_disp | apply put_imm | apply put_sel); simp [encI]; exact rfl; (focus (repeat (first | apply Upd.head | apply Upd.tail))); clear hR; intro w hR))
      go_meet
      exact ⟨_, hj.put_reg hx.reg, hR⟩
    · go_wp2_with (first
    | ((with_reducible apply wpList_box hR); exact rfl; exact rfl; clear hR; intro g1 w hR; simp only [List.set_cons_succ, List.set_cons_zero])
    | ((with_reducible apply wpList_make hR zInst); exact rfl; clear hR; intro g2 w hR; simp only [List.set_cons_succ, List.set_cons_zero])
    | ((with_reducible apply wpList_addr (fInst _ (by decide))); exact rfl; (simp only [List.set_cons_succ, List.set_cons_zero]; exact rfl))
    | ((with_reducible apply wpList_addr (fRow _ (by decide))); exact rfl; (simp only [List.set_cons_succ, List.set_cons_zero]; exact rfl))
    | ((with_reducible apply wpList_box hR); exact rfl; exact rfl; clear hR; intro g w hR; simp only [List.set_cons_succ, List.set_cons_zero])
    | ((with_reducible apply wpList_make hR zInst); exact rfl; clear hR; intro g w hR; simp only [List.set_cons_succ, List.set_cons_zero])
    | ((with_reducible apply wpList_make hR zRow); exact rfl; clear hR; intro g w hR; simp only [List.set_cons_succ, List.set_cons_zero])
    | ((with_reducible apply wpList_part hR tInst); exact rfl; exact rfl; (focus (repeat (first | apply List.Mem.head | apply List.Mem.tail))); apply ext_inst; exact rfl; (simp only [List.set_cons_succ, List.set_cons_zero]; exact rfl))
    | ((with_reducible apply wpList_part hR tRow); exact rfl; exact rfl; (focus (repeat (first | apply List.Mem.head | apply List.Mem.tail))); apply ext_row; exact rfl; (simp only [List.set_cons_succ, List.set_cons_zero]; exact rfl))
    | ((with_reducible apply wpList_one hR tInt); exact rfl; exact rfl; (focus (repeat (first | apply List.Mem.head | apply List.Mem.tail))); exact rfl; (simp only [List.set_cons_succ, List.set_cons_zero]; exact rfl))
    | ((with_reducible apply wpList_one hR tWord); exact rfl; exact rfl; (focus (repeat (first | apply List.Mem.head | apply List.Mem.tail))); exact rfl; (simp only [List.set_cons_succ, List.set_cons_zero]; exact rfl))
    | ((with_reducible apply wpList_one hR tByte); exact rfl; exact rfl; (focus (repeat (first | apply List.Mem.head | apply List.Mem.tail))); exact rfl; (simp only [List.set_cons_succ, List.set_cons_zero]; exact rfl))
    | ((with_reducible apply wpList_one hR tBool); exact rfl; exact rfl; (focus (repeat (first | apply List.Mem.head | apply List.Mem.tail))); exact rfl; (simp only [List.set_cons_succ, List.set_cons_zero]; exact rfl))
    | ((with_reducible apply wpList_put hR tInst); exact rfl; exact rfl; exact rfl; (focus (repeat (first | apply List.Mem.head | apply List.Mem.tail))); apply put_inst; exact rfl; simp [encI]; apply one_inst; (focus (repeat (first | apply Upd.head | apply Upd.tail))); clear hR; intro w hR)
    | ((with_reducible apply wpList_put hR tRow); exact rfl; exact rfl; exact rfl; (focus (repeat (first | apply List.Mem.head | apply List.Mem.tail))); apply put_row; exact rfl; simp [encR]; apply one_row; (focus (repeat (first | apply Upd.head | apply Upd.tail))); clear hR; intro w hR)
    | ((with_reducible apply wpList_built); exact rfl; exact rfl; (first | exact bInst1 _ | exact bInst2 _ _ | exact bInst3 _ _ | exact bRow0); (simp only [List.set_cons_succ, List.set_cons_zero]; exact rfl))
    | ((with_reducible apply wpList_put1 hR tInt); exact rfl; exact rfl; exact rfl; (focus (repeat (first | apply List.Mem.head | apply List.Mem.tail))); (first | apply put_rep | apply put_seg | apply put_mod | apply put_reg | apply put_rm | apply put_disp | apply put_imm | apply put_sel); simp [encI]; exact rfl; (focus (repeat (first | apply Upd.head | apply Upd.tail))); clear hR; intro w hR)
    | ((with_reducible apply wpList_put1 hR tWord); exact rfl; exact rfl; exact rfl; (focus (repeat (first | apply List.Mem.head | apply List.Mem.tail))); (first | apply put_rep | apply put_seg | apply put_mod | apply put_reg | apply put_rm | apply put_disp | apply put_imm | apply put_sel); simp [encI]; exact rfl; (focus (repeat (first | apply Upd.head | apply Upd.tail))); clear hR; intro w hR))
      go_meet
      exact ⟨_, hj, hR⟩
  case rest =>
  clear hR hj
  obtain ⟨i, hi, hR⟩ := hcut
  have hsame := may_same i hi
  rcases Bool.eq_false_or_eq_true (mayR i) with hm | hm
  · obtain ⟨hn0, _, _⟩ := near_of i hm
    rw [hm] at hsame
    have hf := frontZ_bd i i.row
    have hb := immsZ_bd i.row
    have he := put_len i hi
    have hl1 : lenC i = ((putL i).length : Int) := by unfold lenC; rw [hsame, he]; rfl
    have hl2 : tailC i = ((putL i).length : Int) - immsZ i.row := by unfold tailC; rw [hsame, cond_true]; omega
    have h1 : 1 ≤ ((putL i).length : Int) := by omega
    have h2 : ((putL i).length : Int) ≤ 15 := by omega
    clear hf he
    have hmay : ∀ w, Calls Try.prog 11 #[.agg (encI i)] w fun e w' => e = .returned (.bool true) ∧ Below w.heap.size w w' := by
      intro w; have := may_any i hi w; rw [hsame] at this; exact this
    have hlen : ∀ w, Calls Try.prog 12 #[.agg (encI i)] w fun e w' => e = .returned (.int .i64 (putL i).length) ∧ Below w.heap.size w w' := by
      intro w; rw [← hl1]; exact len_any i hi w
    have htail : ∀ w, Calls Try.prog 13 #[.agg (encI i)] w fun e w' => e = .returned (.int .i64 ((putL i).length - immsZ i.row)) ∧ Below w.heap.size w w' := by
      intro w; rw [← hl2]; exact tail_any i hi w
    have HMAY := Lib.hid hmay
    have HLEN := Lib.hid hlen
    have HTAIL := Lib.hid htail
    have HM := Lib.hid hm
    clear hm hmay hlen htail hl1 hl2 hsame
    go_upto_region 23 with (first
    | (go_at_call 6; refine (mayR_any i hi _).mono ?_; rw [HM.out]; rintro e w' ⟨rfl, hb⟩; replace hR := hR.grow hb; clear hb)
    | (go_at_call 7; refine (rowR5_any i hi _).mono ?_; rintro e w' ⟨rfl, hb⟩; replace hR := hR.grow hb; clear hb)
    | (go_at_call 9; refine (immsR_any _ _).mono ?_; rintro e w' ⟨rfl, hb⟩; replace hR := hR.grow hb; clear hb)
    | (go_at_call 8; refine (put5_any i hi hn0 _).mono ?_; rintro e w' ⟨g, cur, cap, rfl, hO, hS⟩; replace hR := hR.join hO; clear hO)
    | ((with_reducible apply wpList_box hR); exact rfl; exact rfl; clear hR; intro g1 w hR; simp only [List.set_cons_succ, List.set_cons_zero])
    | ((with_reducible apply wpList_make hR zInst); exact rfl; clear hR; intro g2 w hR; simp only [List.set_cons_succ, List.set_cons_zero])
    | ((with_reducible apply wpList_addr (fInst _ (by decide))); exact rfl; (simp only [List.set_cons_succ, List.set_cons_zero]; exact rfl))
    | ((with_reducible apply wpList_addr (fRow _ (by decide))); exact rfl; (simp only [List.set_cons_succ, List.set_cons_zero]; exact rfl))
    | ((with_reducible apply wpList_box hR); exact rfl; exact rfl; clear hR; intro g w hR; simp only [List.set_cons_succ, List.set_cons_zero])
    | ((with_reducible apply wpList_make hR zInst); exact rfl; clear hR; intro g w hR; simp only [List.set_cons_succ, List.set_cons_zero])
    | ((with_reducible apply wpList_make hR zRow); exact rfl; clear hR; intro g w hR; simp only [List.set_cons_succ, List.set_cons_zero])
    | ((with_reducible apply wpList_part hR tInst); exact rfl; exact rfl; (focus (repeat (first | apply List.Mem.head | apply List.Mem.tail))); apply ext_inst; exact rfl; (simp only [List.set_cons_succ, List.set_cons_zero]; exact rfl))
    | ((with_reducible apply wpList_part hR tRow); exact rfl; exact rfl; (focus (repeat (first | apply List.Mem.head | apply List.Mem.tail))); apply ext_row; exact rfl; (simp only [List.set_cons_succ, List.set_cons_zero]; exact rfl))
    | ((with_reducible apply wpList_one hR tInt); exact rfl; exact rfl; (focus (repeat (first | apply List.Mem.head | apply List.Mem.tail))); exact rfl; (simp only [List.set_cons_succ, List.set_cons_zero]; exact rfl))
    | ((with_reducible apply wpList_one hR tWord); exact rfl; exact rfl; (focus (repeat (first | apply List.Mem.head | apply List.Mem.tail))); exact rfl; (simp only [List.set_cons_succ, List.set_cons_zero]; exact rfl))
    | ((with_reducible apply wpList_one hR tByte); exact rfl; exact rfl; (focus (repeat (first | apply List.Mem.head | apply List.Mem.tail))); exact rfl; (simp only [List.set_cons_succ, List.set_cons_zero]; exact rfl))
    | ((with_reducible apply wpList_one hR tBool); exact rfl; exact rfl; (focus (repeat (first | apply List.Mem.head | apply List.Mem.tail))); exact rfl; (simp only [List.set_cons_succ, List.set_cons_zero]; exact rfl))
    | ((with_reducible apply wpList_put hR tInst); exact rfl; exact rfl; exact rfl; (focus (repeat (first | apply List.Mem.head | apply List.Mem.tail))); apply put_inst; exact rfl; simp [encI]; apply one_inst; (focus (repeat (first | apply Upd.head | apply Upd.tail))); clear hR; intro w hR)
    | ((with_reducible apply wpList_put hR tRow); exact rfl; exact rfl; exact rfl; (focus (repeat (first | apply List.Mem.head | apply List.Mem.tail))); apply put_row; exact rfl; simp [encR]; apply one_row; (focus (repeat (first | apply Upd.head | apply Upd.tail))); clear hR; intro w hR)
    | ((with_reducible apply wpList_built); exact rfl; exact rfl; (first | exact bInst1 _ | exact bInst2 _ _ | exact bInst3 _ _ | exact bRow0); (simp only [List.set_cons_succ, List.set_cons_zero]; exact rfl))
    | ((with_reducible apply wpList_put1 hR tInt); exact rfl; exact rfl; exact rfl; (focus (repeat (first | apply List.Mem.head | apply List.Mem.tail))); (first | apply put_rep | apply put_seg | apply put_mod | apply put_reg | apply put_rm | apply put_disp | apply put_imm | apply put_sel); simp [encI]; exact rfl; (focus (repeat (first | apply Upd.head | apply Upd.tail))); clear hR; intro w hR)
    | ((with_reducible apply wpList_put1 hR tWord); exact rfl; exact rfl; exact rfl; (focus (repeat (first | apply List.Mem.head | apply List.Mem.tail))); (first | apply put_rep | apply put_seg | apply put_mod | apply put_reg | apply put_rm | apply put_disp | apply put_imm | apply put_sel); simp [encI]; exact rfl; (focus (repeat (first | apply Upd.head | apply Upd.tail))); clear hR; intro w hR))
    refine wp_region_tame hR [0, 1, 2, 3, 4, 5, 6, 7, 8, 9, 10, 11, 12, 13, 14, 15, 16, 17, 18, 19] rfl ?_
    repeat (refine wpT_step rfl ?_; first
        | ((with_reducible apply wpT1_move); exact rfl; exact rfl; (simp only [List.set_cons_succ, List.set_cons_zero]; exact rfl))
        | ((with_reducible apply wpT1_assign); exact rfl; exact rfl; (simp only [List.set_cons_succ, List.set_cons_zero]; exact rfl))
        | ((with_reducible apply wpT1_pick); exact rfl; exact rfl; exact rfl; (simp only [List.set_cons_succ, List.set_cons_zero]; exact rfl))
        | ((with_reducible apply wpT1_addr (fInst _ (by decide))); exact rfl; (simp only [List.set_cons_succ, List.set_cons_zero]; exact rfl))
        | ((with_reducible apply wpT1_addr (fRow _ (by decide))); exact rfl; (simp only [List.set_cons_succ, List.set_cons_zero]; exact rfl))
        | ((with_reducible apply wpT1_one tInt); exact rfl; exact rfl; (focus (repeat (first | apply List.Mem.head | apply List.Mem.tail))); exact rfl; (simp only [List.set_cons_succ, List.set_cons_zero]; exact rfl))
        | ((with_reducible apply wpT1_one tWord); exact rfl; exact rfl; (focus (repeat (first | apply List.Mem.head | apply List.Mem.tail))); exact rfl; (simp only [List.set_cons_succ, List.set_cons_zero]; exact rfl))
        | ((with_reducible apply wpT1_one tByte); exact rfl; exact rfl; (focus (repeat (first | apply List.Mem.head | apply List.Mem.tail))); exact rfl; (simp only [List.set_cons_succ, List.set_cons_zero]; exact rfl))
        | ((with_reducible apply wpT1_one tBool); exact rfl; exact rfl; (focus (repeat (first | apply List.Mem.head | apply List.Mem.tail))); exact rfl; (simp only [List.set_cons_succ, List.set_cons_zero]; exact rfl))
        | ((with_reducible apply wpT1_part tInst); exact rfl; exact rfl; (focus (repeat (first | apply List.Mem.head | apply List.Mem.tail))); apply ext_inst; exact rfl; (simp only [List.set_cons_succ, List.set_cons_zero]; exact rfl))
        | ((with_reducible apply wpT1_part tRow); exact rfl; exact rfl; (focus (repeat (first | apply List.Mem.head | apply List.Mem.tail))); apply ext_row; exact rfl; (simp only [List.set_cons_succ, List.set_cons_zero]; exact rfl))
        | ((with_reducible apply wpT1_built); exact rfl; exact rfl; (first | exact bInst1 _ | exact bInst2 _ _ | exact bInst3 _ _ | exact bRow0); (simp only [List.set_cons_succ, List.set_cons_zero]; exact rfl))
        | ((with_reducible apply wpT1_call Try.call10); exact rfl; exact rfl; (intro w hC; exact tame_below (awake05_any _) hC); (simp only [List.set_cons_succ, List.set_cons_zero]; exact rfl))
        | ((with_reducible apply wpT1_call Try.call11); exact rfl; exact rfl; (intro w hC; exact tame_below (HMAY.out _) hC); (simp only [List.set_cons_succ, List.set_cons_zero]; exact rfl))
        | ((with_reducible apply wpT1_call Try.call12); exact rfl; exact rfl; (intro w hC; exact tame_below (HLEN.out _) hC); (simp only [List.set_cons_succ, List.set_cons_zero]; exact rfl))
        | ((with_reducible apply wpT1_call Try.call13); exact rfl; exact rfl; (intro w hC; exact tame_below (HTAIL.out _) hC); (simp only [List.set_cons_succ, List.set_cons_zero]; exact rfl))
        | ((with_reducible apply wpT1_pure); exact rfl; intro K hK; go_simp; refine hK _ ?_; clear hK K; simp only [List.set_cons_succ, List.set_cons_zero]))
    refine wpT_nil ?_
    clear hR; intro w hR
    go_wp2
    go_ret
    exact ⟨rfl, hR.below⟩
  · rw [hm] at hsame
    have hl1 : lenC i = 0 := by unfold lenC; rw [hsame]; rfl
    have hl2 : tailC i = 0 := by unfold tailC; rw [hsame]; rfl
    have hmay : ∀ w, Calls Try.prog 11 #[.agg (encI i)] w fun e w' => e = .returned (.bool false) ∧ Below w.heap.size w w' := by
      intro w; have := may_any i hi w; rw [hsame] at this; exact this
    have hlen : ∀ w, Calls Try.prog 12 #[.agg (encI i)] w fun e w' => e = .returned (.int .i64 0) ∧ Below w.heap.size w w' := by
      intro w; rw [← hl1]; exact len_any i hi w
    have htail : ∀ w, Calls Try.prog 13 #[.agg (encI i)] w fun e w' => e = .returned (.int .i64 0) ∧ Below w.heap.size w w' := by
      intro w; rw [← hl2]; exact tail_any i hi w
    have HMAY := Lib.hid hmay
    have HLEN := Lib.hid hlen
    have HTAIL := Lib.hid htail
    have HM := Lib.hid hm
    clear hm hmay hlen htail hl1 hl2 hsame
    go_upto_region 23 with (first
    | (go_at_call 6; refine (mayR_any i hi _).mono ?_; rw [HM.out]; rintro e w' ⟨rfl, hb⟩; replace hR := hR.grow hb; clear hb)
    | ((with_reducible apply wpList_box hR); exact rfl; exact rfl; clear hR; intro g1 w hR; simp only [List.set_cons_succ, List.set_cons_zero])
    | ((with_reducible apply wpList_make hR zInst); exact rfl; clear hR; intro g2 w hR; simp only [List.set_cons_succ, List.set_cons_zero])
    | ((with_reducible apply wpList_addr (fInst _ (by decide))); exact rfl; (simp only [List.set_cons_succ, List.set_cons_zero]; exact rfl))
    | ((with_reducible apply wpList_addr (fRow _ (by decide))); exact rfl; (simp only [List.set_cons_succ, List.set_cons_zero]; exact rfl))
    | ((with_reducible apply wpList_box hR); exact rfl; exact rfl; clear hR; intro g w hR; simp only [List.set_cons_succ, List.set_cons_zero])
    | ((with_reducible apply wpList_make hR zInst); exact rfl; clear hR; intro g w hR; simp only [List.set_cons_succ, List.set_cons_zero])
    | ((with_reducible apply wpList_make hR zRow); exact rfl; clear hR; intro g w hR; simp only [List.set_cons_succ, List.set_cons_zero])
    | ((with_reducible apply wpList_part hR tInst); exact rfl; exact rfl; (focus (repeat (first | apply List.Mem.head | apply List.Mem.tail))); apply ext_inst; exact rfl; (simp only [List.set_cons_succ, List.set_cons_zero]; exact rfl))
    | ((with_reducible apply wpList_part hR tRow); exact rfl; exact rfl; (focus (repeat (first | apply List.Mem.head | apply List.Mem.tail))); apply ext_row; exact rfl; (simp only [List.set_cons_succ, List.set_cons_zero]; exact rfl))
    | ((with_reducible apply wpList_one hR tInt); exact rfl; exact rfl; (focus (repeat (first | apply List.Mem.head | apply List.Mem.tail))); exact rfl; (simp only [List.set_cons_succ, List.set_cons_zero]; exact rfl))
    | ((with_reducible apply wpList_one hR tWord); exact rfl; exact rfl; (focus (repeat (first | apply List.Mem.head | apply List.Mem.tail))); exact rfl; (simp only [List.set_cons_succ, List.set_cons_zero]; exact rfl))
    | ((with_reducible apply wpList_one hR tByte); exact rfl; exact rfl; (focus (repeat (first | apply List.Mem.head | apply List.Mem.tail))); exact rfl; (simp only [List.set_cons_succ, List.set_cons_zero]; exact rfl))
    | ((with_reducible apply wpList_one hR tBool); exact rfl; exact rfl; (focus (repeat (first | apply List.Mem.head | apply List.Mem.tail))); exact rfl; (simp only [List.set_cons_succ, List.set_cons_zero]; exact rfl))
    | ((with_reducible apply wpList_put hR tInst); exact rfl; exact rfl; exact rfl; (focus (repeat (first | apply List.Mem.head | apply List.Mem.tail))); apply put_inst; exact rfl; simp [encI]; apply one_inst; (focus (repeat (first | apply Upd.head | apply Upd.tail))); clear hR; intro w hR)
    | ((with_reducible apply wpList_put hR tRow); exact rfl; exact rfl; exact rfl; (focus (repeat (first | apply List.Mem.head | apply List.Mem.tail))); apply put_row; exact rfl; simp [encR]; apply one_row; (focus (repeat (first | apply Upd.head | apply Upd.tail))); clear hR; intro w hR)
    | ((with_reducible apply wpList_built); exact rfl; exact rfl; (first | exact bInst1 _ | exact bInst2 _ _ | exact bInst3 _ _ | exact bRow0); (simp only [List.set_cons_succ, List.set_cons_zero]; exact rfl))
    | ((with_reducible apply wpList_put1 hR tInt); exact rfl; exact rfl; exact rfl; (focus (repeat (first | apply List.Mem.head | apply List.Mem.tail))); (first | apply put_rep | apply put_seg | apply put_mod | apply put_reg | apply put_rm | apply put_disp | apply put_imm | apply put_sel); simp [encI]; exact rfl; (focus (repeat (first | apply Upd.head | apply Upd.tail))); clear hR; intro w hR)
    | ((with_reducible apply wpList_put1 hR tWord); exact rfl; exact rfl; exact rfl; (focus (repeat (first | apply List.Mem.head | apply List.Mem.tail))); (first | apply put_rep | apply put_seg | apply put_mod | apply put_reg | apply put_rm | apply put_disp | apply put_imm | apply put_sel); simp [encI]; exact rfl; (focus (repeat (first | apply Upd.head | apply Upd.tail))); clear hR; intro w hR))
    refine wp_region_tame hR [0, 1, 2, 3, 4, 5, 6, 7, 8, 9, 10, 11, 12, 13, 14, 15, 16, 17, 18, 19] rfl ?_
    repeat (refine wpT_step rfl ?_; first
        | ((with_reducible apply wpT1_move); exact rfl; exact rfl; (simp only [List.set_cons_succ, List.set_cons_zero]; exact rfl))
        | ((with_reducible apply wpT1_assign); exact rfl; exact rfl; (simp only [List.set_cons_succ, List.set_cons_zero]; exact rfl))
        | ((with_reducible apply wpT1_pick); exact rfl; exact rfl; exact rfl; (simp only [List.set_cons_succ, List.set_cons_zero]; exact rfl))
        | ((with_reducible apply wpT1_addr (fInst _ (by decide))); exact rfl; (simp only [List.set_cons_succ, List.set_cons_zero]; exact rfl))
        | ((with_reducible apply wpT1_addr (fRow _ (by decide))); exact rfl; (simp only [List.set_cons_succ, List.set_cons_zero]; exact rfl))
        | ((with_reducible apply wpT1_one tInt); exact rfl; exact rfl; (focus (repeat (first | apply List.Mem.head | apply List.Mem.tail))); exact rfl; (simp only [List.set_cons_succ, List.set_cons_zero]; exact rfl))
        | ((with_reducible apply wpT1_one tWord); exact rfl; exact rfl; (focus (repeat (first | apply List.Mem.head | apply List.Mem.tail))); exact rfl; (simp only [List.set_cons_succ, List.set_cons_zero]; exact rfl))
        | ((with_reducible apply wpT1_one tByte); exact rfl; exact rfl; (focus (repeat (first | apply List.Mem.head | apply List.Mem.tail))); exact rfl; (simp only [List.set_cons_succ, List.set_cons_zero]; exact rfl))
        | ((with_reducible apply wpT1_one tBool); exact rfl; exact rfl; (focus (repeat (first | apply List.Mem.head | apply List.Mem.tail))); exact rfl; (simp only [List.set_cons_succ, List.set_cons_zero]; exact rfl))
        | ((with_reducible apply wpT1_part tInst); exact rfl; exact rfl; (focus (repeat (first | apply List.Mem.head | apply List.Mem.tail))); apply ext_inst; exact rfl; (simp only [List.set_cons_succ, List.set_cons_zero]; exact rfl))
        | ((with_reducible apply wpT1_part tRow); exact rfl; exact rfl; (focus (repeat (first | apply List.Mem.head | apply List.Mem.tail))); apply ext_row; exact rfl; (simp only [List.set_cons_succ, List.set_cons_zero]; exact rfl))
        | ((with_reducible apply wpT1_built); exact rfl; exact rfl; (first | exact bInst1 _ | exact bInst2 _ _ | exact bInst3 _ _ | exact bRow0); (simp only [List.set_cons_succ, List.set_cons_zero]; exact rfl))
        | ((with_reducible apply wpT1_call Try.call10); exact rfl; exact rfl; (intro w hC; exact tame_below (awake05_any _) hC); (simp only [List.set_cons_succ, List.set_cons_zero]; exact rfl))
        | ((with_reducible apply wpT1_call Try.call11); exact rfl; exact rfl; (intro w hC; exact tame_below (HMAY.out _) hC); (simp only [List.set_cons_succ, List.set_cons_zero]; exact rfl))
        | ((with_reducible apply wpT1_call Try.call12); exact rfl; exact rfl; (intro w hC; exact tame_below (HLEN.out _) hC); (simp only [List.set_cons_succ, List.set_cons_zero]; exact rfl))
        | ((with_reducible apply wpT1_call Try.call13); exact rfl; exact rfl; (intro w hC; exact tame_below (HTAIL.out _) hC); (simp only [List.set_cons_succ, List.set_cons_zero]; exact rfl))
        | ((with_reducible apply wpT1_pure); exact rfl; intro K hK; go_simp; refine hK _ ?_; clear hK K; simp only [List.set_cons_succ, List.set_cons_zero]))
    refine wpT_nil ?_
    clear hR; intro w hR
    go_wp2
    go_ret
    exact ⟨rfl, hR.below⟩

set_option maxRecDepth 100000 in
theorem lifted (os : Os) (started : os.Started) (H : Type) (enc : TypeId × Value → H) :
    ReturnsInHanded {} Try.checked os 3 .any (Rows.instMaySpec.pre6 enc Try.prog Try.f3 Rows.instMayRow.domain false) (Rows.instMaySpec.post enc Try.prog Try.f3 false true false false) := by
  refine returnsInHanded_of_change (C := Try.checked) own started (by kernel_rfl) Try.func3
    (ChangeSpec.witness6 (enc := enc) (C := Try.checked) false ⟨#[], #[.agg (encI zeroI), .int .i64 0], []⟩ 8 (by kernel_rfl) (by kernel_rfl) (by kernel_rfl) (by kernel_rfl)) ?_
  intro W base args ds gs before hval0 hW hcnd _
  have hval : ∀ (j : Nat) t v, Try.f3.params[j]? = some t → args[j]? = some v → Value.okWide Try.prog W .any base t v := hval0
  have hW' := hW
  obtain ⟨p, q, hA0, hV, rfl, hfz, hnd⟩ := hW
  have hA : DataW.TrodAll enc Try.prog W 0 (fun _ => true) true Try.f3.params.toList args.toList ds p := hA0
  rw [Try.params3] at hA hval
  obtain ⟨v0, vs0, d0, ds0, p0, q0, hargs, rfl, rfl, h0, r0⟩ := trodAll_cons hA
  obtain ⟨v1, vs1, d1, ds1, p1, q1, rfl, rfl, rfl, h1, r1⟩ := trodAll_cons r0
  obtain ⟨rfl, rfl, rfl⟩ := trodAll_nil r1
  obtain rfl : args = #[v0, v1] := by cases args; simp_all
  obtain ⟨rfl, rfl⟩ := trodVars_none hV
  have k0 := h0
  have lt0 : ∀ x ∈ p0, x.block < W.heap.size := by obtain ⟨m, hm⟩ := k0; exact DataW.trod_lt m _ _ _ hm
  obtain ⟨a1, rfl, rfl, rfl, w1⟩ := open_int Try.underlying3 (hval 1 3 v1 rfl rfl) h1
  clear hA0 hval0
  refine (walk v0 (hval 0 24 v0 rfl rfl) a1 w1 W).mono fun e W' ⟨he, bel⟩ => ?_
  subst he
  exact ⟨_, rfl, _, _, _, [], _, [], hW', trodAll_mk1 (shut_bool Try.underlying4 _), (trodAll_cons_mk (Below.trod laidOut (by kernel_rfl) (of_decide_eq_true (by kernel_rfl)) k0 bel lt0) (trodAll_cons_mk (shut_int Try.underlying3 w1) trodAll_mk0)), rfl, bel.frame _, fun h => by cases h⟩

theorem over : Rows.instMayRow.holds Try.pinned (OpenSpec.ofChange Rows.instMaySpec) :=
  OpenClaim.holds_of_wide 3 Try.f3 rfl rfl rfl rfl rfl rfl rfl ⟨rfl, rfl, rfl, rfl, rfl⟩ rfl rfl rfl rfl rfl (by kernel_rfl) Try.func3 (by kernel_rfl)
    (of_decide_eq_true (by kernel_rfl)) (by unfold Func.isWrapper; first | (rw [if_pos (by decide +kernel)]; kernel_rfl) | (rw [if_neg (by decide +kernel)]; exact ⟨rfl, rfl⟩))
    (fun os started H enc _ => lifted os started H enc)

theorem proved : Rows.InstMaySaid := over
#print axioms proved
end Go.Proofs.Ytpfghkbglcmhgaa.instMay
