










/- 'awake' of hansomlaw30, and what the laws share. No statement of the seat is proved here. -/
import Derived.Test.YtckkgooabnlooaaDoorExpU
namespace Go.Proofs.YtckkgooabnlooaaDoor
open Go.ChangeShapes Go.WideShapes Go.ChangeAt Go.RowKit
set_option linter.unusedVariables false
set_option linter.unusedSimpArgs false
set_option maxRecDepth 100000

def nilSl : Value := .slice none 0 0
def zTab : TabZ := ⟨nilSl, nilSl, [], [], zeroVal⟩
theorem zTab_in (w : World) : TabIn w zTab := ⟨by decide, ⟨(fun _ h => nomatch h), ⟨rfl, rfl, .inl ⟨rfl, rfl, rfl⟩⟩⟩, ⟨rfl, rfl, .inl ⟨rfl, rfl, rfl⟩⟩⟩
theorem bTab0 : Built Tryd.prog 35 [] (encTb zTab) := ⟨by kernel_rfl⟩
theorem strs_row {w0 w : World} {l : List RowT} {g : Nat} {c : Array Value} (hR : Own w0 w l) (hm : (g, c, 9) ∈ l) {ts : List (List Int)} {n : Nat} (hn : ts.length = n) (hc : c.toList = ts.flatMap cellT) (hok : ∀ t ∈ ts, bytesOk t) (hl : n ≤ 1000) : Strs w (.slice (some ⟨g, 0, none⟩) n n) ts := by
  subst hn
  have hlen : (ts.flatMap cellT).length = ts.length := by rw [flat_len cellT_len, Nat.mul_one]
  have hsz : c.size = ts.length := by rw [← hlen, ← hc]; simp
  have hS : Sl 9 1 [(g, c, 9)] (.slice (some ⟨g, 0, none⟩) ts.length ts.length) ts.length (ts.flatMap cellT) :=
    ⟨by rw [hlen, Nat.mul_one], .inr ⟨g, ts.length, c, rfl, rfl, Nat.le_refl _, by simp [maxLen]; omega, by rw [hsz, Nat.mul_one], by rw [hc, Nat.mul_one]; exact List.take_of_length_le (by omega)⟩⟩
  exact hS.strs hR (fun r hr => by cases hr with | head => exact hm | tail _ h => exact nomatch h) hok
theorem got_ok {tb : TabZ} {n : Nat} {j : Job} {s : St} {p : PartZ} {s2 : St} (h : parseM tb n j s = .ok p s2) : (parseM tb n j s).got := by rw [h]; trivial
theorem got_bad {tb : TabZ} {n : Nat} {j : Job} {s : St} {e : Int} (h : parseM tb n j s = .bad e) : (parseM tb n j s).got := by rw [h]; trivial
def tkS (c : Int) : TokZ := ⟨4, [c], 0, 0⟩
def tkN (n : Nat) : TokZ := ⟨2, [], n, 0⟩
def tkA (s : List Int) : TokZ := ⟨1, s, 0, 0⟩
theorem digs_one {a : Int} {n : Nat} (h : digZ a) (hn : (a - 48).toNat = n) : Digs [a] n := hn ▸ Digs.one h
def awW : List (List Int) := [[91], [66, 88], [43], [83, 73], [43], [35, 52], [93]]
def awT : List TokZ := [tkS 91, tkA sBX, tkS 43, tkA sSI, tkS 43, tkN 4, tkS 93]
theorem aw_are : ToksAre awW awT :=
  .cons (.sign (by decide) (by decide) (by decide)) (.cons (.name (oksBX) (by decide)) (.cons (.sign (by decide) (by decide) (by decide)) (.cons (.name (oksSI) (by decide)) (.cons (.sign (by decide) (by decide) (by decide)) (.cons (.num (digs_one ⟨by decide, by decide⟩ rfl)) (.cons (.sign (by decide) (by decide) (by decide)) .nil))))))
theorem aw_parse : parseM zTab 40 (.ex 1) (startS awT) = .ok ⟨false, 0, ⟨4, 0, 0, 0, 0, true⟩, true, 1, 1, 0, 0, false⟩ ⟨[], 0, 1, 0⟩ := by kernel_rfl
def awO : OpdZ := ⟨5, 0, 0, ⟨4, 0, 0, 0, 0, true⟩, 0, 0, false⟩
theorem aw_opd : opdR (parseM zTab 40 (.ex 1) (startS awT)) = (awO, 0) := by rw [aw_parse]; kernel_rfl
theorem bStr7 (a b c d e f g : ByteArray) : BuiltS Tryd.prog 23 7 [(0, .string a), (1, .string b), (2, .string c), (3, .string d), (4, .string e), (5, .string f), (6, .string g)] 9 #[.string a, .string b, .string c, .string d, .string e, .string f, .string g] := ⟨fun w => by simp [go_sem]⟩
theorem bStr1 (a : ByteArray) : BuiltS Tryd.prog 23 1 [(0, .string a)] 9 #[.string a] := ⟨fun w => by simp [go_sem]⟩
theorem bStr3 (a b c : ByteArray) : BuiltS Tryd.prog 23 3 [(0, .string a), (1, .string b), (2, .string c)] 9 #[.string a, .string b, .string c] := ⟨fun w => by simp [go_sem]⟩
def sDS : List Int := [68, 83]
theorem lsDS : (⟨#[68, 83]⟩ : ByteArray) = strOfNums sDS := rfl
theorem oksDS : bytesOk sDS := ascii.ok (ascii_of rfl)
set_option maxHeartbeats 4000000 in
theorem awake_any {w0 : World} (hT : Tabs w0) : Calls Tryd.prog 10 #[] w0 fun e w' => e = .returned (.bool true) ∧ Below w0.heap.size w0 w' := by
  have hR := Own.start w0
  go_enter Tryd.func10, Tryd.ntmps10
  go_upto_region 2 with (first
    | ((with_reducible apply wpList_buildS hR); exact rfl; exact rfl; (exact bStr7 _ _ _ _ _ _ _); clear hR; intro gs w hR; simp only [cS, cZ])
    | (go_at_call 9; refine (toksE_any aw_are (strs_row hR (by (focus (repeat (first | apply List.Mem.head | apply List.Mem.tail | apply List.mem_append_right)))) rfl rfl aw_are.okS (by decide)) (Nat.le_of_ble_eq_true rfl)).mono ?_; rintro e w' ⟨vt, rfl, hb, hTk⟩; replace hR := hR.grow hb; clear hb)
    | ((with_reducible apply wpList_built); exact rfl; exact rfl; exact bTab0; (simp only [cS, cZ]; exact rfl))
    | (go_at_call 12; (refine (operE_any (hT.own hR) (zTab_in _) hTk _ (got_ok aw_parse)).mono ?_; rintro e w' ⟨rfl, hb⟩; replace hR := hR.grow hb; clear hb; rw [aw_opd]))
    | ((with_reducible apply q_ls hR); exact rfl; (with_reducible apply t_extract); (apply EvC.now; exact rfl); exact rfl; (simp only [cS, cZ]; exact rfl); clear hR; intro w hR)
    | ((with_reducible apply wpList_box hR); exact rfl; exact rfl; clear hR; intro g w hR; simp only [cS, cZ])
    | ((with_reducible apply wpList_make hR zOpd); exact rfl; clear hR; intro g w hR; simp only [cS, cZ])
    | ((with_reducible apply q_ls hR); exact rfl; ((with_reducible first | apply t_addr fOpd0 | apply t_addr fOpd2 | apply t_addr fOpd3 | apply t_fieldO (fValO _ (by decide)) | apply t_one tIntV) <;> (first | (focus (repeat (first | (apply EvC.gv; exact rfl; (with_reducible first | exact Imp.refl _ | (apply Imp.left; exact Imp.refl _) | (apply Imp.right; exact Imp.refl _) | (apply Imp.left; apply Imp.left; exact Imp.refl _))) | (apply EvC.now; exact rfl) | (with_reducible first | apply EvAll.cons | exact EvAll.nil))); done) | exact rfl | fail | (focus (repeat (first | apply List.Mem.head | apply List.Mem.tail | apply List.mem_append_right))))); (simp only [cS, cZ]; exact rfl); clear hR; intro w hR)
    | ((with_reducible apply wpList_put hR tOpd); exact rfl; exact rfl; exact rfl; (focus (repeat (first | apply List.Mem.head | apply List.Mem.tail | apply List.mem_append_right))); exact put_opd _ _; exact rfl; exact Nat.le_refl 12; exact one_opd _; (focus (repeat (first | apply Upd.head | apply Upd.tail))); clear hR; intro w hR))
  refine wp_region_tame hR [0, 1, 2, 3, 4, 5, 6, 7, 8, 9, 10, 11, 12, 13, 14, 15, 16, 17, 18, 19, 20, 21, 22] rfl ?_
  repeat (refine wpT_step rfl ?_; first
    | ((first | (with_reducible apply q_pl) | ((with_reducible apply q_gd); (first | (apply GdBy.gt; exact rfl; exact rfl) | (apply GdBy.gf; exact rfl; exact rfl) | (apply GdBy.t; exact rfl; exact rfl) | (apply GdBy.f; exact rfl; exact rfl)))); (first | ((with_reducible first | apply t_move | apply t_assign | apply t_and | apply t_or | apply t_cmp | apply t_not | apply t_addr fOpd0 | apply t_addr fOpd2 | apply t_addr fOpd3 | apply t_fieldO (fValO _ (by decide)) | apply t_one tIntV) <;> (first | (focus (repeat (first | (apply EvC.gv; exact rfl; (with_reducible first | exact Imp.refl _ | (apply Imp.left; exact Imp.refl _) | (apply Imp.right; exact Imp.refl _) | (apply Imp.left; apply Imp.left; exact Imp.refl _))) | (apply EvC.now; exact rfl) | (with_reducible first | apply EvAll.cons | exact EvAll.nil))); done) | exact rfl | fail | (focus (repeat (first | apply List.Mem.head | apply List.Mem.tail | apply List.mem_append_right)))))); (simp only [cS, cZ]; exact rfl))
    | ((first | (with_reducible apply q_pl) | ((with_reducible apply q_gd); (first | (apply GdBy.gt; exact rfl; exact rfl) | (apply GdBy.gf; exact rfl; exact rfl) | (apply GdBy.t; exact rfl; exact rfl) | (apply GdBy.f; exact rfl; exact rfl)))); (with_reducible apply t_call Tryd.call13); (apply EvAll.cons; (exact lit_now lsDS); exact EvAll.nil); (intro hcc w hC; exact tame_below (registerE_any (hT.own hC) oksDS) hC); (simp only [cS, cZ]; exact rfl))
    | ((with_reducible apply q_gd); (first | (apply GdBy.gt; exact rfl; exact rfl) | (apply GdBy.gf; exact rfl; exact rfl) | (apply GdBy.t; exact rfl; exact rfl) | (apply GdBy.f; exact rfl; exact rfl)); ((with_reducible apply t_num) <;> (first | (focus (repeat (first | (apply EvC.gv; exact rfl; (with_reducible first | exact Imp.refl _ | (apply Imp.left; exact Imp.refl _) | (apply Imp.right; exact Imp.refl _) | (apply Imp.left; apply Imp.left; exact Imp.refl _))) | (apply EvC.now; exact rfl) | (with_reducible first | apply EvAll.cons | exact EvAll.nil))); done) | exact rfl | fail | (focus (repeat (first | apply List.Mem.head | apply List.Mem.tail | apply List.mem_append_right))))); (simp only [cS, cZ]; exact rfl))
    | ((with_reducible apply wpT1_gpure); (first | (apply GdBy.gt; exact rfl; exact rfl) | (apply GdBy.gf; exact rfl; exact rfl) | (apply GdBy.t; exact rfl; exact rfl) | (apply GdBy.f; exact rfl; exact rfl)); intro K hK; go_simp; refine hK _ ?_; clear hK K; simp only [cS, cZ])
    | ((with_reducible apply wpT1_pure); exact rfl; intro K hK; go_simp; refine hK _ ?_; clear hK K; simp only [cS, cZ]))
  refine wpT_nil ?_
  clear hR; intro w hR
  go_wp2_with fail
  go_ret
  exact ⟨ret_bool (by kernel_rfl), hR.below⟩
end Go.Proofs.YtckkgooabnlooaaDoor
