









/- The contracts of expr.whole, expr.Operand and expr.Number. No statement of the seat is proved here. -/
import Derived.Test.YtckkgooabnlooaaDoorExpQ
import Derived.Test.YtckkgooabnlooaaDoorExpV
import Derived.Recover
namespace Go.Proofs.YtckkgooabnlooaaDoor
open Go.ChangeShapes Go.WideShapes Go.ChangeAt Go.RowKit
set_option linter.unusedVariables false
set_option linter.unusedSimpArgs false
set_option maxRecDepth 100000

def rdr0 : Array Value := #[.slice none 0 0, .slice none 0 0, .slice none 0 0, .int .i64 0, .int .i64 0, .int .i64 0, .int .i64 0, .int .i64 0, .bool false, .int .i64 0, .int .i64 0, .int .i64 0]
theorem zRdr : ZeroTy Tryd.prog 66 rdr0 := .of (by kernel_rfl)
theorem ext_tab (tb : TabZ) : ExtRel (encTb tb) 0 8 (encTb tb) := extract_all rfl
theorem bRdr (p : Option Addr) (n c : Nat) (tb : TabZ) (l : List TokZ) : Built Tryd.prog 66 [(0, .slice p n c), (1, .agg (encTb tb))] (rdr (.slice p n c) tb (startS l)) := ⟨by kernel_rfl⟩
theorem Rd.slice {w : World} {k m : Nat} {v : Value} {ys : List Value} (h : Rd w k v m ys) : ∃ p n c, v = .slice p n c := by
  rcases h.way with ⟨rfl, _⟩ | ⟨a, cap, rfl, _⟩
  · exact ⟨_, _, _, rfl⟩
  · exact ⟨_, _, _, rfl⟩
theorem one_rdr {w : World} {v : Value} {tb : TabZ} {s : St} {k m : Nat} {ys : List Value} (h : Rd w k v m ys) (hB : TabIn w tb) : (rdr v tb s).all (·.oneCell') = true := by
  obtain ⟨_, _, _, rfl⟩ := h.slice
  obtain ⟨_, _, _, h1⟩ := hB.names.rd.slice
  obtain ⟨_, _, _, h2⟩ := hB.vals.slice
  unfold rdr
  rw [h1, h2]
  simp [Value.oneCell']
/-- What whole comes to. -/
def AnsW (w0 : World) (m : Rs OpdZ) (en : Ending) (w' : World) : Prop := match m with
  | .ok o _ => en = .returned (.agg (encOp o)) ∧ Below w0.heap.size w0 w'
  | .bad e => en = .panicked (errCh e) ∧ Below w0.heap.size w0 w'
  | .out => True
set_option maxHeartbeats 8000000 in
theorem wholeE_any {w0 : World} (hT : Tabs w0) {tb : TabZ} (hB : TabIn w0 tb) {v : Value} {l : List TokZ} (hS : Toks w0 v l) (n : Nat) (hgot : (parseM tb n (.ex 1) (startS l)).got) :
    Calls Tryd.prog 21 #[v, .agg (encTb tb)] w0 (AnsW w0 (wholeR (parseM tb n (.ex 1) (startS l)))) := by
  have hR := Own.start w0
  have HX := Lib.hid (fun gr => (readE_all hT (gr := gr) hB n).1 1 (by decide))
  have hbd := fun p s2 (h : parseM tb n (.ex 1) (startS l) = .ok p s2) => parse_bd tb n (.ex 1) trivial (startS l) p s2 h
  have HO := Lib.hid (one_rdr (s := startS l) hS.rd hB)
  obtain ⟨vp, vn, vc, rfl⟩ := hS.rd.slice
  rcases hm : parseM tb n (.ex 1) (startS l) with ⟨p, s2⟩ | e | _
  · obtain ⟨ha, hb⟩ := hbd p s2 hm
    have HM := Lib.hid hm
    have HP := Lib.hid (fun (w : World) (h : Tabs w) => operandE_any h p ha hb)
    clear hbd hm hgot ha hb
    by_cases h0 : s2.l.length = 0
    · have HL := Lib.hid (show cmpB .eql (s2.l.length : Int) 0 = some true by rw [h0]; rfl)
      by_cases h4 : 40 < s2.m
      · rw [show wholeR (.ok p s2) = .bad 8 by show (if s2.l.length = 0 then _ else _) = _; rw [if_pos h0, if_pos h4]]
        have H4 := Lib.hid (show cmpB .gtr s2.m 40 = some true from congrArg some (decide_eq_true h4))
        clear h0 h4
        go_enter Tryd.func21, Tryd.ntmps21
        go_upto_region 1 with (first
          | ((with_reducible apply wpList_box hR); exact rfl; exact rfl; clear hR; intro g w hR; simp only [cS, cZ])
          | ((with_reducible apply wpList_make hR zOpd); exact rfl; clear hR; intro g w hR; simp only [cS, cZ])
          | ((with_reducible apply q_ls hR); exact rfl; ((with_reducible first | apply t_addr fRdr0 | apply t_addr fRdr3 | apply t_one tIntV | apply t_one tToksE | apply t_part tOpd) <;> (first | (focus (repeat (first | (apply EvC.gv; exact rfl; (with_reducible first | exact Imp.refl _ | (apply Imp.left; exact Imp.refl _) | (apply Imp.right; exact Imp.refl _) | (apply Imp.left; apply Imp.left; exact Imp.refl _))) | (apply EvC.now; exact rfl) | (with_reducible first | apply EvAll.cons | exact EvAll.nil))); done) | exact rfl | exact ext_opd _ | (focus (repeat (first | apply List.Mem.head | apply List.Mem.tail | apply List.mem_append_right))))); (simp only [cS, cZ]; exact rfl); clear hR; intro w hR))
        go_upto_region 2 with (first
          | ((with_reducible apply q_ls hR); exact rfl; (with_reducible apply t_part tTab); (apply EvC.now; exact rfl); (focus (repeat (first | apply List.Mem.head | apply List.Mem.tail | apply List.mem_append_right))); (exact ext_tab _); exact rfl; (simp only [cS, cZ]; exact rfl); clear hR; intro w hR)
          | ((with_reducible apply wpList_built); exact rfl; exact rfl; exact bRdr _ _ _ _ l; (simp only [cS, cZ]; exact rfl))
          | ((with_reducible apply wpList_make hR zRdr); exact rfl; clear hR; intro gr w hR; simp only [cS, cZ])
          | ((with_reducible apply wpList_put hR tRdr); exact rfl; exact rfl; exact rfl; (focus (repeat (first | apply List.Mem.head | apply List.Mem.tail | apply List.mem_append_right))); exact putList_all rfl; exact rfl; exact Nat.le_refl 12; exact HO.out; (focus (repeat (first | apply Upd.head | apply Upd.tail))); clear hR; intro w hR))
        go_wp2_with (first
    | (go_at_call 29; refine (ansR_ok (HX.out gr (startS l) _ _ _ _ (by rw [HM.out]; trivial) hS hR (by (focus (repeat (first | apply Del.head | apply Del.tail)))) (fun _ h => nomatch h)) HM.out).mono ?_; rintro e w' ⟨rfl, v2, hS2, hO⟩; clear hR; have hR := hO; clear hO)
    | (go_at_call 28; refine (HP.out _ (hT.own hR)).mono ?_; rintro e w' ⟨rfl, hb⟩; replace hR := hR.grow hb; clear hb)
    | ((with_reducible apply wpList_box hR); exact rfl; exact rfl; clear hR; intro g w hR; simp only [cS, cZ])
    | ((with_reducible apply wpList_make hR zOpd); exact rfl; clear hR; intro g w hR; simp only [cS, cZ])
    | ((with_reducible apply q_ls hR); exact rfl; ((with_reducible first | apply t_addr fRdr0 | apply t_addr fRdr3 | apply t_one tIntV | apply t_one tToksE | apply t_part tOpd) <;> (first | (focus (repeat (first | (apply EvC.gv; exact rfl; (with_reducible first | exact Imp.refl _ | (apply Imp.left; exact Imp.refl _) | (apply Imp.right; exact Imp.refl _) | (apply Imp.left; apply Imp.left; exact Imp.refl _))) | (apply EvC.now; exact rfl) | (with_reducible first | apply EvAll.cons | exact EvAll.nil))); done) | exact rfl | exact ext_opd _ | (focus (repeat (first | apply List.Mem.head | apply List.Mem.tail | apply List.mem_append_right))))); (simp only [cS, cZ]; exact rfl); clear hR; intro w hR)
    | ((with_reducible apply wpList_put hR tOpd); exact rfl; exact rfl; exact rfl; (focus (repeat (first | apply List.Mem.head | apply List.Mem.tail | apply List.mem_append_right))); exact put_opd _ _; exact rfl; exact Nat.le_refl 12; exact one_opd _; (focus (repeat (first | apply Upd.head | apply Upd.tail))); clear hR; intro w hR)
    | ((with_reducible apply q_ls hR); exact rfl; (with_reducible apply t_lenRd Tryd.underlying31); (apply EvC.now; exact rfl); exact hS2.rd; (simp only [cS, cZ]; exact rfl); clear hR; intro w hR)
    | ((with_reducible apply q_ls hR); exact rfl; (with_reducible apply t_cmp (op := .eql)); (apply EvC.now; exact rfl); (apply EvC.now; exact rfl); exact HL.out; (simp only [cS, cZ]; exact rfl); clear hR; intro w hR)
    | (go_at_call 30; refine (needE_yes _).mono ?_; rintro e w' ⟨rfl, rfl⟩)
    | ((with_reducible apply q_ls hR); exact rfl; (with_reducible apply t_cmp (op := .gtr)); (apply EvC.now; exact rfl); (apply EvC.now; exact rfl); exact H4.out; (simp only [cS, cZ]; exact rfl); clear hR; intro w hR))
        exact ⟨rfl, rfl, hR.below⟩
      · rw [show wholeR (.ok p s2) = .ok (operandZ p) s2 by show (if s2.l.length = 0 then _ else _) = _; rw [if_pos h0, if_neg h4]]
        have H4 := Lib.hid (show cmpB .gtr s2.m 40 = some false from congrArg some (decide_eq_false h4))
        clear h0 h4
        go_enter Tryd.func21, Tryd.ntmps21
        go_upto_region 1 with (first
          | ((with_reducible apply wpList_box hR); exact rfl; exact rfl; clear hR; intro g w hR; simp only [cS, cZ])
          | ((with_reducible apply wpList_make hR zOpd); exact rfl; clear hR; intro g w hR; simp only [cS, cZ])
          | ((with_reducible apply q_ls hR); exact rfl; ((with_reducible first | apply t_addr fRdr0 | apply t_addr fRdr3 | apply t_one tIntV | apply t_one tToksE | apply t_part tOpd) <;> (first | (focus (repeat (first | (apply EvC.gv; exact rfl; (with_reducible first | exact Imp.refl _ | (apply Imp.left; exact Imp.refl _) | (apply Imp.right; exact Imp.refl _) | (apply Imp.left; apply Imp.left; exact Imp.refl _))) | (apply EvC.now; exact rfl) | (with_reducible first | apply EvAll.cons | exact EvAll.nil))); done) | exact rfl | exact ext_opd _ | (focus (repeat (first | apply List.Mem.head | apply List.Mem.tail | apply List.mem_append_right))))); (simp only [cS, cZ]; exact rfl); clear hR; intro w hR))
        go_upto_region 2 with (first
          | ((with_reducible apply q_ls hR); exact rfl; (with_reducible apply t_part tTab); (apply EvC.now; exact rfl); (focus (repeat (first | apply List.Mem.head | apply List.Mem.tail | apply List.mem_append_right))); (exact ext_tab _); exact rfl; (simp only [cS, cZ]; exact rfl); clear hR; intro w hR)
          | ((with_reducible apply wpList_built); exact rfl; exact rfl; exact bRdr _ _ _ _ l; (simp only [cS, cZ]; exact rfl))
          | ((with_reducible apply wpList_make hR zRdr); exact rfl; clear hR; intro gr w hR; simp only [cS, cZ])
          | ((with_reducible apply wpList_put hR tRdr); exact rfl; exact rfl; exact rfl; (focus (repeat (first | apply List.Mem.head | apply List.Mem.tail | apply List.mem_append_right))); exact putList_all rfl; exact rfl; exact Nat.le_refl 12; exact HO.out; (focus (repeat (first | apply Upd.head | apply Upd.tail))); clear hR; intro w hR))
        go_wp2_with (first
    | (go_at_call 29; refine (ansR_ok (HX.out gr (startS l) _ _ _ _ (by rw [HM.out]; trivial) hS hR (by (focus (repeat (first | apply Del.head | apply Del.tail)))) (fun _ h => nomatch h)) HM.out).mono ?_; rintro e w' ⟨rfl, v2, hS2, hO⟩; clear hR; have hR := hO; clear hO)
    | (go_at_call 28; refine (HP.out _ (hT.own hR)).mono ?_; rintro e w' ⟨rfl, hb⟩; replace hR := hR.grow hb; clear hb)
    | ((with_reducible apply wpList_box hR); exact rfl; exact rfl; clear hR; intro g w hR; simp only [cS, cZ])
    | ((with_reducible apply wpList_make hR zOpd); exact rfl; clear hR; intro g w hR; simp only [cS, cZ])
    | ((with_reducible apply q_ls hR); exact rfl; ((with_reducible first | apply t_addr fRdr0 | apply t_addr fRdr3 | apply t_one tIntV | apply t_one tToksE | apply t_part tOpd) <;> (first | (focus (repeat (first | (apply EvC.gv; exact rfl; (with_reducible first | exact Imp.refl _ | (apply Imp.left; exact Imp.refl _) | (apply Imp.right; exact Imp.refl _) | (apply Imp.left; apply Imp.left; exact Imp.refl _))) | (apply EvC.now; exact rfl) | (with_reducible first | apply EvAll.cons | exact EvAll.nil))); done) | exact rfl | exact ext_opd _ | (focus (repeat (first | apply List.Mem.head | apply List.Mem.tail | apply List.mem_append_right))))); (simp only [cS, cZ]; exact rfl); clear hR; intro w hR)
    | ((with_reducible apply wpList_put hR tOpd); exact rfl; exact rfl; exact rfl; (focus (repeat (first | apply List.Mem.head | apply List.Mem.tail | apply List.mem_append_right))); exact put_opd _ _; exact rfl; exact Nat.le_refl 12; exact one_opd _; (focus (repeat (first | apply Upd.head | apply Upd.tail))); clear hR; intro w hR)
    | ((with_reducible apply q_ls hR); exact rfl; (with_reducible apply t_lenRd Tryd.underlying31); (apply EvC.now; exact rfl); exact hS2.rd; (simp only [cS, cZ]; exact rfl); clear hR; intro w hR)
    | ((with_reducible apply q_ls hR); exact rfl; (with_reducible apply t_cmp (op := .eql)); (apply EvC.now; exact rfl); (apply EvC.now; exact rfl); exact HL.out; (simp only [cS, cZ]; exact rfl); clear hR; intro w hR)
    | (go_at_call 30; refine (needE_yes _).mono ?_; rintro e w' ⟨rfl, rfl⟩)
    | ((with_reducible apply q_ls hR); exact rfl; (with_reducible apply t_cmp (op := .gtr)); (apply EvC.now; exact rfl); (apply EvC.now; exact rfl); exact H4.out; (simp only [cS, cZ]; exact rfl); clear hR; intro w hR))
        (try simp only [Exit.inBlock, Exit.then])
        exact post_row hR rfl (by rfl) (by (focus (repeat (first | apply List.Mem.head | apply List.Mem.tail | apply List.mem_append_right)))) Tryd.underlying41 rfl iOpd (by rfl) (by rfl) ⟨rfl, hR.below⟩
    · rw [show wholeR (.ok p s2) = .bad 3 by show (if s2.l.length = 0 then _ else _) = _; rw [if_neg h0]]
      have HL := Lib.hid (show cmpB .eql (s2.l.length : Int) 0 = some false from congrArg some (decide_eq_false (by omega)))
      clear h0
      go_enter Tryd.func21, Tryd.ntmps21
      go_upto_region 1 with (first
        | ((with_reducible apply wpList_box hR); exact rfl; exact rfl; clear hR; intro g w hR; simp only [cS, cZ])
        | ((with_reducible apply wpList_make hR zOpd); exact rfl; clear hR; intro g w hR; simp only [cS, cZ])
        | ((with_reducible apply q_ls hR); exact rfl; ((with_reducible first | apply t_addr fRdr0 | apply t_addr fRdr3 | apply t_one tIntV | apply t_one tToksE | apply t_part tOpd) <;> (first | (focus (repeat (first | (apply EvC.gv; exact rfl; (with_reducible first | exact Imp.refl _ | (apply Imp.left; exact Imp.refl _) | (apply Imp.right; exact Imp.refl _) | (apply Imp.left; apply Imp.left; exact Imp.refl _))) | (apply EvC.now; exact rfl) | (with_reducible first | apply EvAll.cons | exact EvAll.nil))); done) | exact rfl | exact ext_opd _ | (focus (repeat (first | apply List.Mem.head | apply List.Mem.tail | apply List.mem_append_right))))); (simp only [cS, cZ]; exact rfl); clear hR; intro w hR))
      go_upto_region 2 with (first
        | ((with_reducible apply q_ls hR); exact rfl; (with_reducible apply t_part tTab); (apply EvC.now; exact rfl); (focus (repeat (first | apply List.Mem.head | apply List.Mem.tail | apply List.mem_append_right))); (exact ext_tab _); exact rfl; (simp only [cS, cZ]; exact rfl); clear hR; intro w hR)
        | ((with_reducible apply wpList_built); exact rfl; exact rfl; exact bRdr _ _ _ _ l; (simp only [cS, cZ]; exact rfl))
        | ((with_reducible apply wpList_make hR zRdr); exact rfl; clear hR; intro gr w hR; simp only [cS, cZ])
        | ((with_reducible apply wpList_put hR tRdr); exact rfl; exact rfl; exact rfl; (focus (repeat (first | apply List.Mem.head | apply List.Mem.tail | apply List.mem_append_right))); exact putList_all rfl; exact rfl; exact Nat.le_refl 12; exact HO.out; (focus (repeat (first | apply Upd.head | apply Upd.tail))); clear hR; intro w hR))
      go_wp2_with (first
    | (go_at_call 29; refine (ansR_ok (HX.out gr (startS l) _ _ _ _ (by rw [HM.out]; trivial) hS hR (by (focus (repeat (first | apply Del.head | apply Del.tail)))) (fun _ h => nomatch h)) HM.out).mono ?_; rintro e w' ⟨rfl, v2, hS2, hO⟩; clear hR; have hR := hO; clear hO)
    | (go_at_call 28; refine (HP.out _ (hT.own hR)).mono ?_; rintro e w' ⟨rfl, hb⟩; replace hR := hR.grow hb; clear hb)
    | ((with_reducible apply wpList_box hR); exact rfl; exact rfl; clear hR; intro g w hR; simp only [cS, cZ])
    | ((with_reducible apply wpList_make hR zOpd); exact rfl; clear hR; intro g w hR; simp only [cS, cZ])
    | ((with_reducible apply q_ls hR); exact rfl; ((with_reducible first | apply t_addr fRdr0 | apply t_addr fRdr3 | apply t_one tIntV | apply t_one tToksE | apply t_part tOpd) <;> (first | (focus (repeat (first | (apply EvC.gv; exact rfl; (with_reducible first | exact Imp.refl _ | (apply Imp.left; exact Imp.refl _) | (apply Imp.right; exact Imp.refl _) | (apply Imp.left; apply Imp.left; exact Imp.refl _))) | (apply EvC.now; exact rfl) | (with_reducible first | apply EvAll.cons | exact EvAll.nil))); done) | exact rfl | exact ext_opd _ | (focus (repeat (first | apply List.Mem.head | apply List.Mem.tail | apply List.mem_append_right))))); (simp only [cS, cZ]; exact rfl); clear hR; intro w hR)
    | ((with_reducible apply wpList_put hR tOpd); exact rfl; exact rfl; exact rfl; (focus (repeat (first | apply List.Mem.head | apply List.Mem.tail | apply List.mem_append_right))); exact put_opd _ _; exact rfl; exact Nat.le_refl 12; exact one_opd _; (focus (repeat (first | apply Upd.head | apply Upd.tail))); clear hR; intro w hR)
    | ((with_reducible apply q_ls hR); exact rfl; (with_reducible apply t_lenRd Tryd.underlying31); (apply EvC.now; exact rfl); exact hS2.rd; (simp only [cS, cZ]; exact rfl); clear hR; intro w hR)
    | ((with_reducible apply q_ls hR); exact rfl; (with_reducible apply t_cmp (op := .eql)); (apply EvC.now; exact rfl); (apply EvC.now; exact rfl); exact HL.out; (simp only [cS, cZ]; exact rfl); clear hR; intro w hR)
    | (go_at_call 30; refine (needE_no _).mono ?_; rintro e w' ⟨rfl, rfl⟩))
      exact ⟨rfl, rfl, hR.below⟩
  · have HM := Lib.hid hm
    clear hbd hm hgot
    show Calls _ _ _ _ (AnsW w0 (.bad e))
    go_enter Tryd.func21, Tryd.ntmps21
    go_upto_region 1 with (first
      | ((with_reducible apply wpList_box hR); exact rfl; exact rfl; clear hR; intro g w hR; simp only [cS, cZ])
      | ((with_reducible apply wpList_make hR zOpd); exact rfl; clear hR; intro g w hR; simp only [cS, cZ])
      | ((with_reducible apply q_ls hR); exact rfl; ((with_reducible first | apply t_addr fRdr0 | apply t_addr fRdr3 | apply t_one tIntV | apply t_one tToksE | apply t_part tOpd) <;> (first | (focus (repeat (first | (apply EvC.gv; exact rfl; (with_reducible first | exact Imp.refl _ | (apply Imp.left; exact Imp.refl _) | (apply Imp.right; exact Imp.refl _) | (apply Imp.left; apply Imp.left; exact Imp.refl _))) | (apply EvC.now; exact rfl) | (with_reducible first | apply EvAll.cons | exact EvAll.nil))); done) | exact rfl | exact ext_opd _ | (focus (repeat (first | apply List.Mem.head | apply List.Mem.tail | apply List.mem_append_right))))); (simp only [cS, cZ]; exact rfl); clear hR; intro w hR))
    go_upto_region 2 with (first
      | ((with_reducible apply q_ls hR); exact rfl; (with_reducible apply t_part tTab); (apply EvC.now; exact rfl); (focus (repeat (first | apply List.Mem.head | apply List.Mem.tail | apply List.mem_append_right))); (exact ext_tab _); exact rfl; (simp only [cS, cZ]; exact rfl); clear hR; intro w hR)
      | ((with_reducible apply wpList_built); exact rfl; exact rfl; exact bRdr _ _ _ _ l; (simp only [cS, cZ]; exact rfl))
      | ((with_reducible apply wpList_make hR zRdr); exact rfl; clear hR; intro gr w hR; simp only [cS, cZ])
      | ((with_reducible apply wpList_put hR tRdr); exact rfl; exact rfl; exact rfl; (focus (repeat (first | apply List.Mem.head | apply List.Mem.tail | apply List.mem_append_right))); exact putList_all rfl; exact rfl; exact Nat.le_refl 12; exact HO.out; (focus (repeat (first | apply Upd.head | apply Upd.tail))); clear hR; intro w hR))
    go_wp2_with (first
    | (go_at_call 29; refine (ansR_bad (HX.out gr (startS l) _ _ _ _ (by rw [HM.out]; trivial) hS hR (by (focus (repeat (first | apply Del.head | apply Del.tail)))) (fun _ h => nomatch h)) HM.out).mono ?_; rintro e w' ⟨rfl, hO⟩; clear hR; have hR := hO; clear hO))
    exact ⟨rfl, rfl, hR.below⟩
  · exfalso; rw [hm] at hgot; exact hgot
end Go.Proofs.YtckkgooabnlooaaDoor
