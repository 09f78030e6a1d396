









/- The texts of hansomref17, as numbers: what they come to, and the contracts of its functions. No statement of the seat is proved here. -/
import Derived.Test.YtpngjefdgicmiaaDoorStr
import Derived.Test.YtpngjefdgicmiaaDoorApp
import Derived.Test.YtpngjefdgicmiaaDoorRefC
import Derived.Test.YtpngjefdgicmiaaDoorInstR
import Derived.Deep.DeepCutAuto
import Derived.Deep.CutBlock
namespace Go.Proofs.YtpngjefdgicmiaaDoor
open Go.ChangeShapes Go.WideShapes Go.ChangeAt Go.RowKit
set_option linter.unusedVariables false
set_option linter.unusedSimpArgs false

theorem ret_nums {a b : List Int} (h : a = b) : Ending.returned (.string (strOfNums a)) = .returned (.string (strOfNums b)) := by rw [h]
/-! ### Digits -/
def digN (d : Int) : Int := if d < 10 then 48 + d else 55 + d
def hexN : Nat → Int → List Int
  | 0, _ => []
  | k + 1, y => hexN k (y / 16) ++ [digN (y % 16)]
theorem hexN_len : ∀ (k : Nat) (y : Int), (hexN k y).length = k
  | 0, _ => rfl
  | k + 1, y => by simp [hexN, hexN_len k]
theorem hexN_ok : ∀ (k : Nat) (y : Int), bytesOk (hexN k y)
  | 0, _ => .nil
  | k + 1, y => (hexN_ok k _).append (.cons (by unfold digN; split <;> omega) .nil)
theorem hexN_more : ∀ (k : Nat) (y : Int), 0 ≤ y → digN (y / 16 ^ k % 16) :: hexN k y = hexN (k + 1) y
  | 0, y, _ => by simp [hexN]
  | k + 1, y, h => by
    have ih := hexN_more k (y / 16) (by omega)
    have e : y / 16 / 16 ^ k = y / 16 ^ (k + 1) := by
      rw [Int.ediv_ediv_of_nonneg (by decide), Int.pow_succ, Int.mul_comm]
    rw [e] at ih
    show digN (y / 16 ^ (k + 1) % 16) :: (hexN k (y / 16) ++ [digN (y % 16)]) = hexN (k + 1) (y / 16) ++ [digN (y % 16)]
    rw [← ih]; rfl
theorem tTextX : TextTy Tryd.prog 78 5 9 := ⟨Tryd.underlying78, Tryd.underlying5, Tryd.underlying9⟩
theorem bX1 (x : Int) : BuiltS Tryd.prog 78 1 [(0, .int .u8 x)] 5 #[.int .u8 x] := ⟨fun w => by simp [go_sem]⟩
theorem src_rowX {w0 w : World} {l : List RowT} {g : Nat} {cur : Array Value} {e : TypeId} {ns : List Int} (hR : Own w0 w l) (hm : (g, cur, e) ∈ l) (hc : cur.toList = cellsB ns) (hb : bytesOk ns) (hl : ns.length ≤ 1000000) : SrcW w (.slice (some ⟨g, 0, none⟩) ns.length ns.length) ns := by
  have hs : cur.size = ns.length := by rw [← Array.length_toList, hc, cellsB_len]
  exact .ofRw hR hm ((RwIs.all (by rw [hs, Nat.mul_one]) hl).cast hc) hb
theorem hexN_any (x : Int) (m : Nat) (w0 : World) (h0 : 0 ≤ x) (h1 : x ≤ 4294967295) (h3 : m ≤ 1000) :
    Calls Tryd.prog 47 #[.int .u32 x, .int .i64 m] w0 fun e w' => e = .returned (.string (strOfNums (hexN m x))) ∧ Below w0.heap.size w0 w' := by
  have hR := Own.start w0
  go_enter Tryd.func47, Tryd.ntmps47
  go_wp2_with fail
  go_loopw [0, 5, 6] (fun y s i wr => ∃ j : Nat, i = .int .i64 j ∧ j ≤ m ∧ y = .int .u32 (x / 16 ^ j) ∧ s = .string (strOfNums (hexN j x)) ∧ Own w0 wr []) (fun _ _ i _ => m - (intOf i).toNat)
  case atStart => exact ⟨0, rfl, Nat.zero_le _, by simp, rfl, hR⟩
  case round =>
    clear hR
    obtain ⟨j, rfl, hj, rfl, rfl, hR⟩ := hrel
    by_cases hjm : j < m
    · have hp : 0 < (16 : Int) ^ j := Int.pow_pos (by decide)
      have hy0 : 0 ≤ x / 16 ^ j := Int.ediv_nonneg h0 (by omega)
      have hy1 : x / 16 ^ j ≤ x := Int.ediv_le_self _ h0
      have HB := Lib.hid (hexN_more j x h0)
      have hlj := hexN_len j x
      have HQ := Lib.hid (show x / 16 ^ j / 16 = x / 16 ^ (j + 1) by rw [Int.ediv_ediv_of_nonneg (by omega), Int.pow_succ])
      generalize x / 16 ^ j = y at *
      generalize hexN j x = s at *
      have hls : s.length ≤ 1000 := by omega
      clear hlj hp
      have hd0 : 0 ≤ y % 16 ∧ y % 16 ≤ 15 := by omega
      have HR := Lib.hid (show y.tmod 16 = y % 16 from Int.tmod_eq_emod_of_nonneg hy0)
      have HU := Lib.hid (show IntKind.u32.wrap (y.tdiv 16) = y / 16 by rw [Int.tdiv_eq_ediv_of_nonneg hy0, IntKind.wrap_u32]; omega)
      generalize hd : y % 16 = d at *
      have hok : bytesOk [digN d] := .cons (by unfold digN; split <;> omega) .nil
      clear hd
      by_cases hlt : d < 10
      · have hdv : digN d = 48 + d := by unfold digN; rw [if_pos hlt]
        rw [hdv] at hok HB
        clear hdv
        go_wp2_with (first
            | ((with_reducible apply q_ls hR); exact rfl; (with_reducible apply t_rem); (apply EvC.now; exact rfl); (apply EvC.now; exact rfl); (decide); exact HR.out; (simp only [List.set_cons_succ, List.set_cons_zero]; exact rfl); clear hR; intro w hR)
            | ((with_reducible apply q_ls hR); exact rfl; (with_reducible apply t_quo); (apply EvC.now; exact rfl); (apply EvC.now; exact rfl); (decide); exact HU.out; (simp only [List.set_cons_succ, List.set_cons_zero]; exact rfl); clear hR; intro w hR)
            | ((with_reducible apply wpList_buildS hR); exact rfl; exact rfl; (exact bX1 _); clear hR; intro gb w hR; simp only [List.set_cons_succ, List.set_cons_zero])
            | ((with_reducible apply q_ls hR); exact rfl; (with_reducible apply t_strW tTextX); (apply EvC.now; exact rfl); (exact fun w hC => src_rowX hC (.head _) rfl hok (by simp)); (simp only [List.set_cons_succ, List.set_cons_zero]; exact rfl); clear hR; intro w hR)
            | ((with_reducible apply q_ls hR); exact rfl; (with_reducible apply t_cat); (apply EvC.now; exact rfl); (apply EvC.now; exact rfl); (simp; omega); (simp only [List.set_cons_succ, List.set_cons_zero]; exact rfl); clear hR; intro w hR))
        go_round
        case rel => exact ⟨j + 1, rfl, by omega, by rw [HQ.out], by rw [← HB.out]; rfl, hR.drop (List.nil_sublist _)⟩
        case measure => simp [intOf]; omega
      · have hdv : digN d = 65 + d - 10 := by unfold digN; rw [if_neg hlt]; omega
        rw [hdv] at hok HB
        clear hdv
        go_wp2_with (first
            | ((with_reducible apply q_ls hR); exact rfl; (with_reducible apply t_rem); (apply EvC.now; exact rfl); (apply EvC.now; exact rfl); (decide); exact HR.out; (simp only [List.set_cons_succ, List.set_cons_zero]; exact rfl); clear hR; intro w hR)
            | ((with_reducible apply q_ls hR); exact rfl; (with_reducible apply t_quo); (apply EvC.now; exact rfl); (apply EvC.now; exact rfl); (decide); exact HU.out; (simp only [List.set_cons_succ, List.set_cons_zero]; exact rfl); clear hR; intro w hR)
            | ((with_reducible apply wpList_buildS hR); exact rfl; exact rfl; (exact bX1 _); clear hR; intro gb w hR; simp only [List.set_cons_succ, List.set_cons_zero])
            | ((with_reducible apply q_ls hR); exact rfl; (with_reducible apply t_strW tTextX); (apply EvC.now; exact rfl); (exact fun w hC => src_rowX hC (.head _) rfl hok (by simp)); (simp only [List.set_cons_succ, List.set_cons_zero]; exact rfl); clear hR; intro w hR)
            | ((with_reducible apply q_ls hR); exact rfl; (with_reducible apply t_cat); (apply EvC.now; exact rfl); (apply EvC.now; exact rfl); (simp; omega); (simp only [List.set_cons_succ, List.set_cons_zero]; exact rfl); clear hR; intro w hR))
        go_round
        case rel => exact ⟨j + 1, rfl, by omega, by rw [HQ.out], by rw [← HB.out]; rfl, hR.drop (List.nil_sublist _)⟩
        case measure => simp [intOf]; omega
    · have he : j = m := by omega
      subst he
      go_wp2_with fail
      go_ret
      exact ⟨rfl, hR.below⟩
/-! ### Words of a list -/
def of17 (L : List (List Int)) (n : Int) : List Int := if 0 ≤ n ∧ n < (L.length : Int) then L.getD n.toNat [] else [63]
theorem of17_len {L : List (List Int)} {m : Nat} (h : ∀ x ∈ L, x.length ≤ m) (hm : 1 ≤ m) (n : Int) : (of17 L n).length ≤ m := by
  unfold of17
  split
  · rename_i hn
    have hl : n.toNat < L.length := by omega
    rw [List.getD_eq_getElem?_getD, List.getElem?_eq_getElem hl]
    exact h _ (List.getElem_mem hl)
  · exact hm
theorem of17_ok {L : List (List Int)} (h : ∀ x ∈ L, bytesOk x) (n : Int) : bytesOk (of17 L n) := by
  unfold of17
  split
  · rename_i hn
    have hl : n.toNat < L.length := by omega
    rw [List.getD_eq_getElem?_getD, List.getElem?_eq_getElem hl]
    exact h _ (List.getElem_mem hl)
  · exact .cons (by decide) .nil
def strL (L : List (List Int)) : List Value := L.map fun ns => .string (strOfNums ns)
theorem l63 : (⟨#[63]⟩ : ByteArray) = strOfNums [63] := rfl
theorem tStrO : OneTy Tryd.prog 9 := .of Tryd.underlying9 rfl (by kernel_rfl)
theorem iStrO : (Tryd.prog.info? 9).map (·.size) = some 1 := by kernel_rfl
theorem of17_any {w0 : World} {v : Value} {L : List (List Int)} (h : Rd w0 1 v L.length (strL L)) (n : Int) (h0 : -9223372036854775808 ≤ n) (h1 : n ≤ 9223372036854775807) :
    Calls Tryd.prog 23 #[v, .int .i64 n] w0 fun e w' => e = .returned (.string (strOfNums (of17 L n))) ∧ Below w0.heap.size w0 w' := by
  have hR := Own.start w0
  go_enter Tryd.func23, Tryd.ntmps23
  go_upto_region 1 with fail
  refine wp_region_tame hR [0, 1, 2, 3, 4, 5, 6, 7] rfl ?_
  repeat (refine wpT_step rfl ?_; first
    | ((first | (with_reducible apply q_pl) | ((with_reducible apply q_gd); (first | (apply GdBy.gt; exact rfl; exact rfl) | (apply GdBy.gf; exact rfl; exact rfl) | (apply GdBy.t; exact rfl; exact rfl) | (apply GdBy.f; exact rfl; exact rfl)))); (with_reducible apply t_lenRd Tryd.underlying33); (first | (apply EvC.gv; exact rfl; (with_reducible first | exact Imp.refl _ | (apply Imp.left; exact Imp.refl _) | (apply Imp.right; exact Imp.refl _) | (apply Imp.left; apply Imp.left; exact Imp.refl _))) | (apply EvC.now; exact rfl)); exact h; (simp only [List.set_cons_succ, List.set_cons_zero]; exact rfl))
    | ((first | (with_reducible apply q_pl) | ((with_reducible apply q_gd); (first | (apply GdBy.gt; exact rfl; exact rfl) | (apply GdBy.gf; exact rfl; exact rfl) | (apply GdBy.t; exact rfl; exact rfl) | (apply GdBy.f; exact rfl; exact rfl)))); (first | ((with_reducible first | apply t_move | apply t_assign | apply t_and | apply t_or | apply t_cmp | apply t_not | apply t_addr (fInst _ (by decide)) | apply t_addr (fRow _ (by decide)) | apply t_one tInt | apply t_one tWord | apply t_one tByte | apply t_one tBool | apply t_part tInst | apply t_part tRow) <;> (first | (apply EvC.gv; exact rfl; (with_reducible first | exact Imp.refl _ | (apply Imp.left; exact Imp.refl _) | (apply Imp.right; exact Imp.refl _) | (apply Imp.left; apply Imp.left; exact Imp.refl _))) | (apply EvC.now; exact rfl) | exact rfl | (with_reducible exact EvAll.nil) | (focus (repeat (first | apply EvAll.cons | exact EvAll.nil | (apply EvC.gv; exact rfl; (with_reducible first | exact Imp.refl _ | (apply Imp.left; exact Imp.refl _) | (apply Imp.right; exact Imp.refl _) | (apply Imp.left; apply Imp.left; exact Imp.refl _))) | (apply EvC.now; exact rfl))); done) | (first | apply ext_inst | apply ext_row) | (focus (repeat (first | apply List.Mem.head | apply List.Mem.tail | apply List.mem_append_right)))))); (simp only [List.set_cons_succ, List.set_cons_zero]; exact rfl))
    | ((with_reducible apply q_gd); (first | (apply GdBy.gt; exact rfl; exact rfl) | (apply GdBy.gf; exact rfl; exact rfl) | (apply GdBy.t; exact rfl; exact rfl) | (apply GdBy.f; exact rfl; exact rfl)); ((with_reducible apply t_num) <;> (first | (apply EvC.gv; exact rfl; (with_reducible first | exact Imp.refl _ | (apply Imp.left; exact Imp.refl _) | (apply Imp.right; exact Imp.refl _) | (apply Imp.left; apply Imp.left; exact Imp.refl _))) | (apply EvC.now; exact rfl) | exact rfl | (with_reducible exact EvAll.nil) | (focus (repeat (first | apply EvAll.cons | exact EvAll.nil | (apply EvC.gv; exact rfl; (with_reducible first | exact Imp.refl _ | (apply Imp.left; exact Imp.refl _) | (apply Imp.right; exact Imp.refl _) | (apply Imp.left; apply Imp.left; exact Imp.refl _))) | (apply EvC.now; exact rfl))); done) | (first | apply ext_inst | apply ext_row) | (focus (repeat (first | apply List.Mem.head | apply List.Mem.tail | apply List.mem_append_right))))); (simp only [List.set_cons_succ, List.set_cons_zero]; exact rfl))
    | ((with_reducible apply wpT1_gpure); (first | (apply GdBy.gt; exact rfl; exact rfl) | (apply GdBy.gf; exact rfl; exact rfl) | (apply GdBy.t; exact rfl; exact rfl) | (apply GdBy.f; exact rfl; exact rfl)); intro K hK; go_simp; refine hK _ ?_; clear hK K; simp only [List.set_cons_succ, List.set_cons_zero])
    | ((with_reducible apply wpT1_pure); exact rfl; intro K hK; go_simp; refine hK _ ?_; clear hK K; simp only [List.set_cons_succ, List.set_cons_zero]))
  refine wpT_nil ?_
  clear hR; intro w hR
  go_upto_if 12 with fail
  by_cases hn : 0 ≤ n ∧ n < (L.length : Int)
  · refine wp_cond_at (nm := false) rfl (by simp; omega) (fun h => absurd h (by decide)) (fun _ => ?_)
    have hl : n.toNat < L.length := by omega
    obtain ⟨x, hx⟩ : ∃ x, L[n.toNat]? = some x := ⟨_, List.getElem?_eq_getElem hl⟩
    have HV := Lib.hid (show of17 L n = x by unfold of17; rw [if_pos hn, List.getD_eq_getElem?_getD, hx]; rfl)
    have hc : (strL L)[n.toNat]? = some (.string (strOfNums x)) := by unfold strL; rw [List.getElem?_map, hx]; rfl
    rcases h.way with ⟨_, h2, _⟩ | ⟨a, cap, rfl, hle, hcell⟩
    · omega
    have HC := Lib.hid (show w0.cell? (a.add (n.toNat * 1)) = some (.string (strOfNums x)) by rw [Nat.mul_one]; exact hcell _ _ hc)
    obtain ⟨hn0, hn1⟩ := hn
    clear hcell hc hx
    go_wp2_with (first
    | ((with_reducible apply q_ls hR); exact rfl; (with_reducible apply t_six Tryd.underlying33 iStrO); (apply EvC.now; exact rfl); (apply EvC.now; exact rfl); (constructor <;> omega); (simp only [List.set_cons_succ, List.set_cons_zero]; exact rfl); clear hR; intro w hR)
    | ((with_reducible apply q_ls hR); exact rfl; (with_reducible apply t_oldOne tStrO); (apply EvC.now; exact rfl); exact HC.out; exact rfl; (simp only [List.set_cons_succ, List.set_cons_zero]; exact rfl); clear hR; intro w hR))
    go_ret
    exact ⟨by rw [HV.out]; rfl, hR.below⟩
  · refine wp_cond_at (nm := true) rfl (by simp; omega) (fun _ => ?_) (fun h => absurd h (by decide))
    have HV := Lib.hid (show of17 L n = [63] from if_neg hn)
    go_wp2_with fail
    go_ret
    exact ⟨by rw [HV.out]; rfl, hR.below⟩
def regL : List (List Int) := [[65, 88], [67, 88], [68, 88], [66, 88], [83, 80], [66, 80], [83, 73], [68, 73]]
def byteL : List (List Int) := [[65, 76], [67, 76], [68, 76], [66, 76], [65, 72], [67, 72], [68, 72], [66, 72]]
def segL : List (List Int) := [[69, 83], [67, 83], [83, 83], [68, 83]]
def baseL : List (List Int) := [[66, 88, 43, 83, 73], [66, 88, 43, 68, 73], [66, 80, 43, 83, 73], [66, 80, 43, 68, 73], [83, 73], [68, 73], [66, 80], [66, 88]]
def lastL : List (List Int) := [[65, 76], [67, 76], [65, 88], [68, 88], [49]]
theorem strL_one (L : List (List Int)) : (strL L).all (·.oneCell') = true := by
  unfold strL; rw [List.all_map]; exact List.all_eq_true.2 fun _ _ => rfl
/-- A list of texts of the call's own. -/
theorem rd_strs {w0 w : World} {l : List RowT} {g : Nat} {cur : Array Value} {e : TypeId} {L : List (List Int)} (hR : Own w0 w l) (hm : (g, cur, e) ∈ l) (hc : cur.toList = strL L) (hl : L.length ≤ 1000000) : Rd w 1 (.slice (some ⟨g, 0, none⟩) L.length L.length) L.length (strL L) := by
  have hs : cur.size = L.length := by rw [← Array.length_toList, hc]; simp [strL]
  have h : Sl e 1 [(g, cur, e)] (.slice (some ⟨g, 0, none⟩) L.length L.length) L.length (strL L) := ((RwIs.all (by rw [hs, Nat.mul_one]) hl).cast hc).sl
  exact h.rd hR (fun r hr => by rw [List.mem_singleton.1 hr]; exact hm) (strL_one L)
theorem bregL : BuiltS Tryd.prog 33 8 [(0, .string ⟨#[65, 88]⟩), (1, .string ⟨#[67, 88]⟩), (2, .string ⟨#[68, 88]⟩), (3, .string ⟨#[66, 88]⟩), (4, .string ⟨#[83, 80]⟩), (5, .string ⟨#[66, 80]⟩), (6, .string ⟨#[83, 73]⟩), (7, .string ⟨#[68, 73]⟩)] 9 #[.string ⟨#[65, 88]⟩, .string ⟨#[67, 88]⟩, .string ⟨#[68, 88]⟩, .string ⟨#[66, 88]⟩, .string ⟨#[83, 80]⟩, .string ⟨#[66, 80]⟩, .string ⟨#[83, 73]⟩, .string ⟨#[68, 73]⟩] := ⟨fun w => by simp [go_sem]⟩
theorem sregL : (#[.string ⟨#[65, 88]⟩, .string ⟨#[67, 88]⟩, .string ⟨#[68, 88]⟩, .string ⟨#[66, 88]⟩, .string ⟨#[83, 80]⟩, .string ⟨#[66, 80]⟩, .string ⟨#[83, 73]⟩, .string ⟨#[68, 73]⟩] : Array Value).toList = strL regL := rfl
theorem nregL (n : Int) : (of17 regL n).length ≤ 2 := of17_len (by decide) (by decide) n
theorem oregL (n : Int) : bytesOk (of17 regL n) := of17_ok (by unfold bytesOk; decide) n
theorem bbyteL : BuiltS Tryd.prog 33 8 [(0, .string ⟨#[65, 76]⟩), (1, .string ⟨#[67, 76]⟩), (2, .string ⟨#[68, 76]⟩), (3, .string ⟨#[66, 76]⟩), (4, .string ⟨#[65, 72]⟩), (5, .string ⟨#[67, 72]⟩), (6, .string ⟨#[68, 72]⟩), (7, .string ⟨#[66, 72]⟩)] 9 #[.string ⟨#[65, 76]⟩, .string ⟨#[67, 76]⟩, .string ⟨#[68, 76]⟩, .string ⟨#[66, 76]⟩, .string ⟨#[65, 72]⟩, .string ⟨#[67, 72]⟩, .string ⟨#[68, 72]⟩, .string ⟨#[66, 72]⟩] := ⟨fun w => by simp [go_sem]⟩
theorem sbyteL : (#[.string ⟨#[65, 76]⟩, .string ⟨#[67, 76]⟩, .string ⟨#[68, 76]⟩, .string ⟨#[66, 76]⟩, .string ⟨#[65, 72]⟩, .string ⟨#[67, 72]⟩, .string ⟨#[68, 72]⟩, .string ⟨#[66, 72]⟩] : Array Value).toList = strL byteL := rfl
theorem nbyteL (n : Int) : (of17 byteL n).length ≤ 2 := of17_len (by decide) (by decide) n
theorem obyteL (n : Int) : bytesOk (of17 byteL n) := of17_ok (by unfold bytesOk; decide) n
theorem bsegL : BuiltS Tryd.prog 33 4 [(0, .string ⟨#[69, 83]⟩), (1, .string ⟨#[67, 83]⟩), (2, .string ⟨#[83, 83]⟩), (3, .string ⟨#[68, 83]⟩)] 9 #[.string ⟨#[69, 83]⟩, .string ⟨#[67, 83]⟩, .string ⟨#[83, 83]⟩, .string ⟨#[68, 83]⟩] := ⟨fun w => by simp [go_sem]⟩
theorem ssegL : (#[.string ⟨#[69, 83]⟩, .string ⟨#[67, 83]⟩, .string ⟨#[83, 83]⟩, .string ⟨#[68, 83]⟩] : Array Value).toList = strL segL := rfl
theorem nsegL (n : Int) : (of17 segL n).length ≤ 2 := of17_len (by decide) (by decide) n
theorem osegL (n : Int) : bytesOk (of17 segL n) := of17_ok (by unfold bytesOk; decide) n
theorem bbaseL : BuiltS Tryd.prog 33 8 [(0, .string ⟨#[66, 88, 43, 83, 73]⟩), (1, .string ⟨#[66, 88, 43, 68, 73]⟩), (2, .string ⟨#[66, 80, 43, 83, 73]⟩), (3, .string ⟨#[66, 80, 43, 68, 73]⟩), (4, .string ⟨#[83, 73]⟩), (5, .string ⟨#[68, 73]⟩), (6, .string ⟨#[66, 80]⟩), (7, .string ⟨#[66, 88]⟩)] 9 #[.string ⟨#[66, 88, 43, 83, 73]⟩, .string ⟨#[66, 88, 43, 68, 73]⟩, .string ⟨#[66, 80, 43, 83, 73]⟩, .string ⟨#[66, 80, 43, 68, 73]⟩, .string ⟨#[83, 73]⟩, .string ⟨#[68, 73]⟩, .string ⟨#[66, 80]⟩, .string ⟨#[66, 88]⟩] := ⟨fun w => by simp [go_sem]⟩
theorem sbaseL : (#[.string ⟨#[66, 88, 43, 83, 73]⟩, .string ⟨#[66, 88, 43, 68, 73]⟩, .string ⟨#[66, 80, 43, 83, 73]⟩, .string ⟨#[66, 80, 43, 68, 73]⟩, .string ⟨#[83, 73]⟩, .string ⟨#[68, 73]⟩, .string ⟨#[66, 80]⟩, .string ⟨#[66, 88]⟩] : Array Value).toList = strL baseL := rfl
theorem nbaseL (n : Int) : (of17 baseL n).length ≤ 5 := of17_len (by decide) (by decide) n
theorem obaseL (n : Int) : bytesOk (of17 baseL n) := of17_ok (by unfold bytesOk; decide) n
theorem blastL : BuiltS Tryd.prog 33 5 [(0, .string ⟨#[65, 76]⟩), (1, .string ⟨#[67, 76]⟩), (2, .string ⟨#[65, 88]⟩), (3, .string ⟨#[68, 88]⟩), (4, .string ⟨#[49]⟩)] 9 #[.string ⟨#[65, 76]⟩, .string ⟨#[67, 76]⟩, .string ⟨#[65, 88]⟩, .string ⟨#[68, 88]⟩, .string ⟨#[49]⟩] := ⟨fun w => by simp [go_sem]⟩
theorem slastL : (#[.string ⟨#[65, 76]⟩, .string ⟨#[67, 76]⟩, .string ⟨#[65, 88]⟩, .string ⟨#[68, 88]⟩, .string ⟨#[49]⟩] : Array Value).toList = strL lastL := rfl
theorem nlastL (n : Int) : (of17 lastL n).length ≤ 2 := of17_len (by decide) (by decide) n
theorem olastL (n : Int) : bytesOk (of17 lastL n) := of17_ok (by unfold bytesOk; decide) n
theorem reg17_any (n : Int) (w0 : World) (h0 : -9223372036854775808 ≤ n) (h1 : n ≤ 9223372036854775807) :
    Calls Tryd.prog 10 #[.int .i64 n] w0 fun e w' => e = .returned (.string (strOfNums (of17 regL n))) ∧ Below w0.heap.size w0 w' := by
  have hR := Own.start w0
  go_enter Tryd.func10, Tryd.ntmps10
  go_wp2_with (first
    | ((with_reducible apply wpList_buildS hR); exact rfl; exact rfl; (exact bregL); clear hR; intro gb w hR; simp only [List.set_cons_succ, List.set_cons_zero])
    | (go_at_call 23; refine (of17_any (rd_strs (L := regL) hR (.head _) sregL (by decide)) n h0 h1).mono ?_; rintro e w' ⟨rfl, hb⟩; replace hR := hR.grow hb; clear hb))
  go_ret
  exact ⟨rfl, hR.below⟩
theorem byte17_any (n : Int) (w0 : World) (h0 : -9223372036854775808 ≤ n) (h1 : n ≤ 9223372036854775807) :
    Calls Tryd.prog 12 #[.int .i64 n] w0 fun e w' => e = .returned (.string (strOfNums (of17 byteL n))) ∧ Below w0.heap.size w0 w' := by
  have hR := Own.start w0
  go_enter Tryd.func12, Tryd.ntmps12
  go_wp2_with (first
    | ((with_reducible apply wpList_buildS hR); exact rfl; exact rfl; (exact bbyteL); clear hR; intro gb w hR; simp only [List.set_cons_succ, List.set_cons_zero])
    | (go_at_call 23; refine (of17_any (rd_strs (L := byteL) hR (.head _) sbyteL (by decide)) n h0 h1).mono ?_; rintro e w' ⟨rfl, hb⟩; replace hR := hR.grow hb; clear hb))
  go_ret
  exact ⟨rfl, hR.below⟩
theorem seg17_any (n : Int) (w0 : World) (h0 : -9223372036854775808 ≤ n) (h1 : n ≤ 9223372036854775807) :
    Calls Tryd.prog 14 #[.int .i64 n] w0 fun e w' => e = .returned (.string (strOfNums (of17 segL n))) ∧ Below w0.heap.size w0 w' := by
  have hR := Own.start w0
  go_enter Tryd.func14, Tryd.ntmps14
  go_wp2_with (first
    | ((with_reducible apply wpList_buildS hR); exact rfl; exact rfl; (exact bsegL); clear hR; intro gb w hR; simp only [List.set_cons_succ, List.set_cons_zero])
    | (go_at_call 23; refine (of17_any (rd_strs (L := segL) hR (.head _) ssegL (by decide)) n h0 h1).mono ?_; rintro e w' ⟨rfl, hb⟩; replace hR := hR.grow hb; clear hb))
  go_ret
  exact ⟨rfl, hR.below⟩
theorem l32 : (⟨#[32]⟩ : ByteArray) = strOfNums [32] := rfl
theorem l43 : (⟨#[43]⟩ : ByteArray) = strOfNums [43] := rfl
theorem l44 : (⟨#[44]⟩ : ByteArray) = strOfNums [44] := rfl
theorem l45 : (⟨#[45]⟩ : ByteArray) = strOfNums [45] := rfl
theorem l58 : (⟨#[58]⟩ : ByteArray) = strOfNums [58] := rfl
theorem l91 : (⟨#[91]⟩ : ByteArray) = strOfNums [91] := rfl
theorem l93 : (⟨#[93]⟩ : ByteArray) = strOfNums [93] := rfl
theorem lBYTE : (⟨#[66, 89, 84, 69, 32]⟩ : ByteArray) = strOfNums [66, 89, 84, 69, 32] := rfl
theorem lWORD : (⟨#[87, 79, 82, 68, 32]⟩ : ByteArray) = strOfNums [87, 79, 82, 68, 32] := rfl
theorem lFAR : (⟨#[70, 65, 82, 32]⟩ : ByteArray) = strOfNums [70, 65, 82, 32] := rfl
theorem lLOCK : (⟨#[76, 79, 67, 75, 32]⟩ : ByteArray) = strOfNums [76, 79, 67, 75, 32] := rfl
theorem lREPNE : (⟨#[82, 69, 80, 78, 69, 32]⟩ : ByteArray) = strOfNums [82, 69, 80, 78, 69, 32] := rfl
theorem lREP : (⟨#[82, 69, 80, 32]⟩ : ByteArray) = strOfNums [82, 69, 80, 32] := rfl
/-! ### Where something in memory is -/
def segP (i : InstZ) : List Int := bif decide (0 < i.seg) then of17 segL (i.seg - 1) ++ [58] else []
theorem segP_len (i : InstZ) : (segP i).length ≤ 3 := by
  unfold segP
  have := nsegL (i.seg - 1)
  cases decide (0 < i.seg)
  · simp
  · simp; omega
theorem segP_ok (i : InstZ) : bytesOk (segP i) := by
  unfold segP
  cases decide (0 < i.seg)
  · exact .nil
  · exact (osegL _).append (.cons (by decide) .nil)
def farN (d : Int) (k : Nat) : List Int := bif decide (32767 < d) then [45] ++ hexN k (65536 - d) else [43] ++ hexN k d
def placeV (i : InstZ) : List Int :=
  bif dispsZ i.mod i.rm == 0 then segP i ++ [91] ++ of17 baseL i.rm ++ [93]
  else bif dispsZ i.mod i.rm == 1 then (bif decide (32767 < i.disp) then segP i ++ [91] ++ of17 baseL i.rm ++ [45] ++ hexN 2 (65536 - i.disp) ++ [93] else segP i ++ [91] ++ of17 baseL i.rm ++ [43] ++ hexN 2 i.disp ++ [93])
  else bif i.mod == 0 then segP i ++ [91] ++ hexN 4 i.disp ++ [93]
  else segP i ++ [91] ++ of17 baseL i.rm ++ [43] ++ hexN 4 i.disp ++ [93]
set_option maxRecDepth 100000 in
theorem place17_any (i : InstZ) (hi : i.ok) (w0 : World) :
    Calls Tryd.prog 46 #[.agg (encI i)] w0 fun e w' => e = .returned (.string (strOfNums (placeV i))) ∧ Below w0.heap.size w0 w' := by
  have hR := Own.start w0
  obtain ⟨hseg0, hseg1⟩ := hi.seg
  obtain ⟨hrm0, hrm1⟩ := hi.rm
  obtain ⟨hd0, hd1⟩ := hi.disp
  go_enter Tryd.func46, Tryd.ntmps46
  go_upto_if 8 with (first
    | ((with_reducible apply wpList_box hR); exact rfl; exact rfl; clear hR; intro g w hR; simp only [List.set_cons_succ, List.set_cons_zero])
    | ((with_reducible apply q_ls hR); exact rfl; ((with_reducible first | apply t_addr (fInst _ (by decide)) | apply t_addr (fRow _ (by decide)) | apply t_one tInt | apply t_one tWord | apply t_one tByte | apply t_one tBool | apply t_part tInst | apply t_part tRow) <;> (first | (apply EvC.gv; exact rfl; (with_reducible first | exact Imp.refl _ | (apply Imp.left; exact Imp.refl _) | (apply Imp.right; exact Imp.refl _) | (apply Imp.left; apply Imp.left; exact Imp.refl _))) | (apply EvC.now; exact rfl) | exact rfl | (with_reducible exact EvAll.nil) | (focus (repeat (first | apply EvAll.cons | exact EvAll.nil | (apply EvC.gv; exact rfl; (with_reducible first | exact Imp.refl _ | (apply Imp.left; exact Imp.refl _) | (apply Imp.right; exact Imp.refl _) | (apply Imp.left; apply Imp.left; exact Imp.refl _))) | (apply EvC.now; exact rfl))); done) | (first | apply ext_inst | apply ext_row) | (focus (repeat (first | apply List.Mem.head | apply List.Mem.tail | apply List.mem_append_right))))); (simp only [List.set_cons_succ, List.set_cons_zero]; exact rfl); clear hR; intro w hR))
  go_cut [3] (fun s wr => s = .string (strOfNums (segP i)) ∧ Own w0 wr [(g, encI i, 28)])
  case first =>
    by_cases hs : 0 < i.seg
    · have HV := Lib.hid (show segP i = of17 segL (i.seg - 1) ++ [58] by unfold segP; rw [decide_eq_true hs]; rfl)
      have hl := nsegL (i.seg - 1)
      go_wp2_with (first
    | (go_at_call 14; refine (seg17_any _ _ (by omega) (by omega)).mono ?_; rintro e w' ⟨rfl, hb⟩; replace hR := hR.grow hb; clear hb)
    | ((with_reducible apply q_ls hR); exact rfl; (with_reducible apply t_cat); (first | (with_reducible first | exact lit_now l32 | exact lit_now l43 | exact lit_now l44 | exact lit_now l45 | exact lit_now l58 | exact lit_now l91 | exact lit_now l93 | exact lit_now lBYTE | exact lit_now lWORD | exact lit_now lFAR | exact lit_now lLOCK | exact lit_now lREPNE | exact lit_now lREP) | (apply EvC.now; exact rfl)); (first | (with_reducible first | exact lit_now l32 | exact lit_now l43 | exact lit_now l44 | exact lit_now l45 | exact lit_now l58 | exact lit_now l91 | exact lit_now l93 | exact lit_now lBYTE | exact lit_now lWORD | exact lit_now lFAR | exact lit_now lLOCK | exact lit_now lREPNE | exact lit_now lREP) | (apply EvC.now; exact rfl)); (simp only [List.length_append, List.length_cons, List.length_nil]; omega); (simp only [List.set_cons_succ, List.set_cons_zero]; exact rfl); clear hR; intro w hR)
    | ((with_reducible apply q_ls hR); exact rfl; ((with_reducible first | apply t_addr (fInst _ (by decide)) | apply t_addr (fRow _ (by decide)) | apply t_one tInt | apply t_one tWord | apply t_one tByte | apply t_one tBool | apply t_part tInst | apply t_part tRow) <;> (first | (apply EvC.gv; exact rfl; (with_reducible first | exact Imp.refl _ | (apply Imp.left; exact Imp.refl _) | (apply Imp.right; exact Imp.refl _) | (apply Imp.left; apply Imp.left; exact Imp.refl _))) | (apply EvC.now; exact rfl) | exact rfl | (with_reducible exact EvAll.nil) | (focus (repeat (first | apply EvAll.cons | exact EvAll.nil | (apply EvC.gv; exact rfl; (with_reducible first | exact Imp.refl _ | (apply Imp.left; exact Imp.refl _) | (apply Imp.right; exact Imp.refl _) | (apply Imp.left; apply Imp.left; exact Imp.refl _))) | (apply EvC.now; exact rfl))); done) | (first | apply ext_inst | apply ext_row) | (focus (repeat (first | apply List.Mem.head | apply List.Mem.tail | apply List.mem_append_right))))); (simp only [List.set_cons_succ, List.set_cons_zero]; exact rfl); clear hR; intro w hR))
      go_meet
      exact ⟨by rw [HV.out], hR⟩
    · have HV := Lib.hid (show segP i = [] by unfold segP; rw [decide_eq_false hs]; rfl)
      go_wp2_with fail
      go_meet
      exact ⟨by rw [HV.out]; rfl, hR⟩
  case rest =>
  clear hR
  obtain ⟨rfl, hR⟩ := hcut
  have hls := segP_len i
  have hlb := nbaseL i.rm
  have hl2 := hexN_len 2 i.disp
  have hl2m := hexN_len 2 (65536 - i.disp)
  have hl4 := hexN_len 4 i.disp
  obtain ⟨D, hD⟩ : ∃ D, dispsZ i.mod i.rm = D := ⟨_, rfl⟩
  have HDD := Lib.hid hD
  have HC := Lib.hid (show IntKind.u32.wrap i.disp = i.disp by rw [IntKind.wrap_u32]; omega)
  have HS := Lib.hid (show IntKind.u32.wrap (65536 - i.disp) = 65536 - i.disp by rw [IntKind.wrap_u32]; omega)
  have hP : placeV i = bif D == 0 then segP i ++ [91] ++ of17 baseL i.rm ++ [93]
      else bif D == 1 then (bif decide (32767 < i.disp) then segP i ++ [91] ++ of17 baseL i.rm ++ [45] ++ hexN 2 (65536 - i.disp) ++ [93] else segP i ++ [91] ++ of17 baseL i.rm ++ [43] ++ hexN 2 i.disp ++ [93])
      else bif i.mod == 0 then segP i ++ [91] ++ hexN 4 i.disp ++ [93]
      else segP i ++ [91] ++ of17 baseL i.rm ++ [43] ++ hexN 4 i.disp ++ [93] := by rw [← hD]; rfl
  have HP := Lib.hid hP
  clear hD hP
  go_upto_region 7 with (first
    | ((with_reducible apply wpList_buildS hR); exact rfl; exact rfl; (exact bbaseL); clear hR; intro gb w hR; simp only [List.set_cons_succ, List.set_cons_zero])
    | (go_at_call 23; refine (of17_any (rd_strs (L := baseL) hR (.head _) sbaseL (by decide)) _ (by omega) (by omega)).mono ?_; rintro e w' ⟨rfl, hb⟩; replace hR := hR.grow hb; clear hb)
    | (go_at_call 26; refine (dispsR_any _ _ _).mono ?_; rw [HDD.out]; rintro e w' ⟨rfl, rfl⟩)
    | ((with_reducible apply q_ls hR); exact rfl; (with_reducible apply t_conv Tryd.underlying26 Tryd.underlying58); (apply EvC.now; exact rfl); exact HC.out; (simp only [List.set_cons_succ, List.set_cons_zero]; exact rfl); clear hR; intro w hR)
    | ((with_reducible apply q_ls hR); exact rfl; ((with_reducible first | apply t_addr (fInst _ (by decide)) | apply t_addr (fRow _ (by decide)) | apply t_one tInt | apply t_one tWord | apply t_one tByte | apply t_one tBool | apply t_part tInst | apply t_part tRow) <;> (first | (apply EvC.gv; exact rfl; (with_reducible first | exact Imp.refl _ | (apply Imp.left; exact Imp.refl _) | (apply Imp.right; exact Imp.refl _) | (apply Imp.left; apply Imp.left; exact Imp.refl _))) | (apply EvC.now; exact rfl) | exact rfl | (with_reducible exact EvAll.nil) | (focus (repeat (first | apply EvAll.cons | exact EvAll.nil | (apply EvC.gv; exact rfl; (with_reducible first | exact Imp.refl _ | (apply Imp.left; exact Imp.refl _) | (apply Imp.right; exact Imp.refl _) | (apply Imp.left; apply Imp.left; exact Imp.refl _))) | (apply EvC.now; exact rfl))); done) | (first | apply ext_inst | apply ext_row) | (focus (repeat (first | apply List.Mem.head | apply List.Mem.tail | apply List.mem_append_right))))); (simp only [List.set_cons_succ, List.set_cons_zero]; exact rfl); clear hR; intro w hR))
  by_cases h0 : D = 0
  · subst h0
    have HV := Lib.hid (show placeV i = segP i ++ [91] ++ of17 baseL i.rm ++ [93] by rw [HP.out]; rfl)
    go_wp2_with (first
        | ((with_reducible apply q_ls hR); exact rfl; (with_reducible apply t_cat); (first | (with_reducible first | exact lit_now l32 | exact lit_now l43 | exact lit_now l44 | exact lit_now l45 | exact lit_now l58 | exact lit_now l91 | exact lit_now l93 | exact lit_now lBYTE | exact lit_now lWORD | exact lit_now lFAR | exact lit_now lLOCK | exact lit_now lREPNE | exact lit_now lREP) | (apply EvC.now; exact rfl)); (first | (with_reducible first | exact lit_now l32 | exact lit_now l43 | exact lit_now l44 | exact lit_now l45 | exact lit_now l58 | exact lit_now l91 | exact lit_now l93 | exact lit_now lBYTE | exact lit_now lWORD | exact lit_now lFAR | exact lit_now lLOCK | exact lit_now lREPNE | exact lit_now lREP) | (apply EvC.now; exact rfl)); (simp only [List.length_append, List.length_cons, List.length_nil]; omega); (simp only [List.set_cons_succ, List.set_cons_zero]; exact rfl); clear hR; intro w hR)
        | (go_at_call 47; refine (hexN_any _ _ _ (by omega) (by omega) (by decide)).mono ?_; rintro e w' ⟨rfl, hb⟩; replace hR := hR.grow hb; clear hb)
        | ((with_reducible apply q_ls hR); exact rfl; (with_reducible apply t_numE); (apply EvC.now; exact rfl); (apply EvC.now; exact rfl); exact rfl; exact HS.out; (simp only [List.set_cons_succ, List.set_cons_zero]; exact rfl); clear hR; intro w hR))
    go_ret
    exact ⟨ret_nums (by rw [HV.out]; first | done | simp), hR.below⟩
  · by_cases h1 : D = 1
    · subst h1
      go_upto_if 36 with fail
      by_cases hd : 32767 < i.disp
      · have HV := Lib.hid (show placeV i = segP i ++ [91] ++ of17 baseL i.rm ++ [45] ++ hexN 2 (65536 - i.disp) ++ [93] by rw [HP.out, decide_eq_true hd]; rfl)
        refine wp_cond_at (nm := true) rfl (by simp; omega) (fun _ => ?_) (fun h => absurd h (by decide))
        go_wp2_with (first
            | ((with_reducible apply q_ls hR); exact rfl; (with_reducible apply t_cat); (first | (with_reducible first | exact lit_now l32 | exact lit_now l43 | exact lit_now l44 | exact lit_now l45 | exact lit_now l58 | exact lit_now l91 | exact lit_now l93 | exact lit_now lBYTE | exact lit_now lWORD | exact lit_now lFAR | exact lit_now lLOCK | exact lit_now lREPNE | exact lit_now lREP) | (apply EvC.now; exact rfl)); (first | (with_reducible first | exact lit_now l32 | exact lit_now l43 | exact lit_now l44 | exact lit_now l45 | exact lit_now l58 | exact lit_now l91 | exact lit_now l93 | exact lit_now lBYTE | exact lit_now lWORD | exact lit_now lFAR | exact lit_now lLOCK | exact lit_now lREPNE | exact lit_now lREP) | (apply EvC.now; exact rfl)); (simp only [List.length_append, List.length_cons, List.length_nil]; omega); (simp only [List.set_cons_succ, List.set_cons_zero]; exact rfl); clear hR; intro w hR)
            | (go_at_call 47; refine (hexN_any _ _ _ (by omega) (by omega) (by decide)).mono ?_; rintro e w' ⟨rfl, hb⟩; replace hR := hR.grow hb; clear hb)
            | ((with_reducible apply q_ls hR); exact rfl; (with_reducible apply t_numE); (apply EvC.now; exact rfl); (apply EvC.now; exact rfl); exact rfl; exact HS.out; (simp only [List.set_cons_succ, List.set_cons_zero]; exact rfl); clear hR; intro w hR))
        go_ret
        exact ⟨ret_nums (by rw [HV.out]; first | done | simp), hR.below⟩
      · have HV := Lib.hid (show placeV i = segP i ++ [91] ++ of17 baseL i.rm ++ [43] ++ hexN 2 i.disp ++ [93] by rw [HP.out, decide_eq_false hd]; rfl)
        refine wp_cond_at (nm := false) rfl (by simp; omega) (fun h => absurd h (by decide)) (fun _ => ?_)
        go_wp2_with (first
            | ((with_reducible apply q_ls hR); exact rfl; (with_reducible apply t_cat); (first | (with_reducible first | exact lit_now l32 | exact lit_now l43 | exact lit_now l44 | exact lit_now l45 | exact lit_now l58 | exact lit_now l91 | exact lit_now l93 | exact lit_now lBYTE | exact lit_now lWORD | exact lit_now lFAR | exact lit_now lLOCK | exact lit_now lREPNE | exact lit_now lREP) | (apply EvC.now; exact rfl)); (first | (with_reducible first | exact lit_now l32 | exact lit_now l43 | exact lit_now l44 | exact lit_now l45 | exact lit_now l58 | exact lit_now l91 | exact lit_now l93 | exact lit_now lBYTE | exact lit_now lWORD | exact lit_now lFAR | exact lit_now lLOCK | exact lit_now lREPNE | exact lit_now lREP) | (apply EvC.now; exact rfl)); (simp only [List.length_append, List.length_cons, List.length_nil]; omega); (simp only [List.set_cons_succ, List.set_cons_zero]; exact rfl); clear hR; intro w hR)
            | (go_at_call 47; refine (hexN_any _ _ _ (by omega) (by omega) (by decide)).mono ?_; rintro e w' ⟨rfl, hb⟩; replace hR := hR.grow hb; clear hb)
            | ((with_reducible apply q_ls hR); exact rfl; (with_reducible apply t_numE); (apply EvC.now; exact rfl); (apply EvC.now; exact rfl); exact rfl; exact HS.out; (simp only [List.set_cons_succ, List.set_cons_zero]; exact rfl); clear hR; intro w hR))
        go_ret
        exact ⟨ret_nums (by rw [HV.out]; first | done | simp), hR.below⟩
    · have e0 : (D == 0) = false := by simpa using h0
      have e1 : (D == 1) = false := by simpa using h1
      go_upto_if 58 with (first
    | ((with_reducible apply q_ls hR); exact rfl; ((with_reducible first | apply t_addr (fInst _ (by decide)) | apply t_addr (fRow _ (by decide)) | apply t_one tInt | apply t_one tWord | apply t_one tByte | apply t_one tBool | apply t_part tInst | apply t_part tRow) <;> (first | (apply EvC.gv; exact rfl; (with_reducible first | exact Imp.refl _ | (apply Imp.left; exact Imp.refl _) | (apply Imp.right; exact Imp.refl _) | (apply Imp.left; apply Imp.left; exact Imp.refl _))) | (apply EvC.now; exact rfl) | exact rfl | (with_reducible exact EvAll.nil) | (focus (repeat (first | apply EvAll.cons | exact EvAll.nil | (apply EvC.gv; exact rfl; (with_reducible first | exact Imp.refl _ | (apply Imp.left; exact Imp.refl _) | (apply Imp.right; exact Imp.refl _) | (apply Imp.left; apply Imp.left; exact Imp.refl _))) | (apply EvC.now; exact rfl))); done) | (first | apply ext_inst | apply ext_row) | (focus (repeat (first | apply List.Mem.head | apply List.Mem.tail | apply List.mem_append_right))))); (simp only [List.set_cons_succ, List.set_cons_zero]; exact rfl); clear hR; intro w hR))
      by_cases hm : i.mod = 0
      · have HV := Lib.hid (show placeV i = segP i ++ [91] ++ hexN 4 i.disp ++ [93] by rw [HP.out, e0, e1, show (i.mod == 0) = true by simpa using hm]; rfl)
        refine wp_cond_at (nm := true) rfl (by simp; omega) (fun _ => ?_) (fun h => absurd h (by decide))
        clear e0 e1 h0 h1 hm
        go_wp2_with (first
            | ((with_reducible apply q_ls hR); exact rfl; (with_reducible apply t_cat); (first | (with_reducible first | exact lit_now l32 | exact lit_now l43 | exact lit_now l44 | exact lit_now l45 | exact lit_now l58 | exact lit_now l91 | exact lit_now l93 | exact lit_now lBYTE | exact lit_now lWORD | exact lit_now lFAR | exact lit_now lLOCK | exact lit_now lREPNE | exact lit_now lREP) | (apply EvC.now; exact rfl)); (first | (with_reducible first | exact lit_now l32 | exact lit_now l43 | exact lit_now l44 | exact lit_now l45 | exact lit_now l58 | exact lit_now l91 | exact lit_now l93 | exact lit_now lBYTE | exact lit_now lWORD | exact lit_now lFAR | exact lit_now lLOCK | exact lit_now lREPNE | exact lit_now lREP) | (apply EvC.now; exact rfl)); (simp only [List.length_append, List.length_cons, List.length_nil]; omega); (simp only [List.set_cons_succ, List.set_cons_zero]; exact rfl); clear hR; intro w hR)
            | (go_at_call 47; refine (hexN_any _ _ _ (by omega) (by omega) (by decide)).mono ?_; rintro e w' ⟨rfl, hb⟩; replace hR := hR.grow hb; clear hb)
            | ((with_reducible apply q_ls hR); exact rfl; (with_reducible apply t_numE); (apply EvC.now; exact rfl); (apply EvC.now; exact rfl); exact rfl; exact HS.out; (simp only [List.set_cons_succ, List.set_cons_zero]; exact rfl); clear hR; intro w hR))
        go_ret
        exact ⟨ret_nums (by rw [HV.out]; first | done | simp), hR.below⟩
      · have HV := Lib.hid (show placeV i = segP i ++ [91] ++ of17 baseL i.rm ++ [43] ++ hexN 4 i.disp ++ [93] by rw [HP.out, e0, e1, show (i.mod == 0) = false by simpa using hm]; rfl)
        refine wp_cond_at (nm := false) rfl (by simp; omega) (fun h => absurd h (by decide)) (fun _ => ?_)
        clear e0 e1 h0 h1 hm
        go_wp2_with (first
            | ((with_reducible apply q_ls hR); exact rfl; (with_reducible apply t_cat); (first | (with_reducible first | exact lit_now l32 | exact lit_now l43 | exact lit_now l44 | exact lit_now l45 | exact lit_now l58 | exact lit_now l91 | exact lit_now l93 | exact lit_now lBYTE | exact lit_now lWORD | exact lit_now lFAR | exact lit_now lLOCK | exact lit_now lREPNE | exact lit_now lREP) | (apply EvC.now; exact rfl)); (first | (with_reducible first | exact lit_now l32 | exact lit_now l43 | exact lit_now l44 | exact lit_now l45 | exact lit_now l58 | exact lit_now l91 | exact lit_now l93 | exact lit_now lBYTE | exact lit_now lWORD | exact lit_now lFAR | exact lit_now lLOCK | exact lit_now lREPNE | exact lit_now lREP) | (apply EvC.now; exact rfl)); (simp only [List.length_append, List.length_cons, List.length_nil]; omega); (simp only [List.set_cons_succ, List.set_cons_zero]; exact rfl); clear hR; intro w hR)
            | (go_at_call 47; refine (hexN_any _ _ _ (by omega) (by omega) (by decide)).mono ?_; rintro e w' ⟨rfl, hb⟩; replace hR := hR.grow hb; clear hb)
            | ((with_reducible apply q_ls hR); exact rfl; (with_reducible apply t_numE); (apply EvC.now; exact rfl); (apply EvC.now; exact rfl); exact rfl; exact HS.out; (simp only [List.set_cons_succ, List.set_cons_zero]; exact rfl); clear hR; intro w hR))
        go_ret
        exact ⟨ret_nums (by rw [HV.out]; first | done | simp), hR.below⟩
end Go.Proofs.YtpngjefdgicmiaaDoor
