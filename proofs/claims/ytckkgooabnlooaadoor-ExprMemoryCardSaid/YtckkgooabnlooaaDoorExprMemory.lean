/- The law ExprMemory (x) returns true whatever the arguments, in a state in which the listed package-level tables hold what the program lays them with (the card ties that to its text), and each argument reads afterwards as before. There is no condition on the arguments. -/
import Derived.Test.YtckkgooabnlooaaDoorRows
import Derived.Test.YtckkgooabnlooaaDoorMem30
import Derived.WalkKit
import Derived.ProofKit
import Derived.OpenShut
import Derived.ShutString
import Derived.ChangeOld
import Derived.Below
import Derived.Test.YtckkgooabnlooaaDoorTie
import Derived.Test.YtckkgooabnlooaaDoorCards
import Derived.Test.YtckkgooabnlooaaDoorExpTab
import Derived.SevenTiedAt
namespace Go.Proofs.YtckkgooabnlooaaDoor.exprMemory
open Go.ChangeShapes Go.WideShapes Go.ChangeAt Go.RowKit
open Go.ChangeMaps (open_string shut_string)
set_option linter.unusedVariables false
set_option linter.unusedSimpArgs false

theorem own : ownKnob Tryd.prog.godebug = none := by kernel_rfl
theorem laidOut : laidOutB Tryd.prog = true := by kernel_rfl



















theorem tStrsK : SliceK Tryd.prog 23 9 1 := .of (z := .string ByteArray.empty) (b := 16) Tryd.underlying23 (by kernel_rfl) (by decide) rfl (by decide)
theorem iIntE : (Tryd.prog.info? 3).map (·.size) = some 1 := by kernel_rfl
theorem bStr5 (a b c d e : ByteArray) : BuiltS Tryd.prog 23 5 [(0, .string a), (1, .string b), (2, .string c), (3, .string d), (4, .string e)] 9 #[.string a, .string b, .string c, .string d, .string e] := ⟨fun w => by simp [go_sem]⟩
theorem bStr6 (a b c d e f : ByteArray) : BuiltS Tryd.prog 23 6 [(0, .string a), (1, .string b), (2, .string c), (3, .string d), (4, .string e), (5, .string f)] 9 #[.string a, .string b, .string c, .string d, .string e, .string f] := ⟨fun w => by simp [go_sem]⟩
theorem bInt4 (a b c d : Int) : BuiltS Tryd.prog 22 4 [(0, .int .i64 a), (1, .int .i64 b), (2, .int .i64 c), (3, .int .i64 d)] 3 #[.int .i64 a, .int .i64 b, .int .i64 c, .int .i64 d] := ⟨fun w => by simp [go_sem]⟩
theorem bOpdM (r : Int) (v : ValZ) : Built Tryd.prog 41 [(0, .int .i64 5), (2, .int .i64 r), (3, .agg (encV v))] (encOp ⟨5, 0, r, v, 0, 0, false⟩) := ⟨by kernel_rfl⟩
theorem l35 : (⟨#[35]⟩ : ByteArray) = strOfNums [35] := rfl
theorem memN_ok : ∀ t ∈ memN, bytesOk t := by
  intro t ht
  simp only [memN, List.mem_cons, List.not_mem_nil, or_false] at ht
  rcases ht with rfl | rfl | rfl | rfl | rfl <;> exact ascii.ok (ascii_of rfl)
theorem sl_row {g : Nat} {c : Array Value} {ts : List (List Int)} {n : Nat} (hn : ts.length = n) (hc : c.toList = ts.flatMap cellT) (hl : n ≤ 1000) : Sl 9 1 [(g, c, 9)] (.slice (some ⟨g, 0, none⟩) n n) n (ts.flatMap cellT) := by
  subst hn
  have hlen : (ts.flatMap cellT).length = ts.length := by rw [flat_len cellT_len, Nat.mul_one]
  have hsz : c.size = ts.length := by rw [← hlen, ← hc]; simp
  exact ⟨by rw [hlen, Nat.mul_one], .inr ⟨g, ts.length, c, rfl, rfl, Nat.le_refl _, by simp [maxLen]; omega, by rw [hsz, Nat.mul_one], by rw [hc, Nat.mul_one]; exact List.take_of_length_le (by omega)⟩⟩
structure NamX (x : Nat) (s : List Int) : Prop where
  el : memN[x]? = some s
  ge : memN.getD x [] = s
  tok : TokIs s (tkA s)
theorem nam_x {x : Nat} (h : x < 5) : ∃ s, NamX x s := by
  have h2 : x = 0 ∨ x = 1 ∨ x = 2 ∨ x = 3 ∨ x = 4 := by omega
  rcases h2 with rfl | rfl | rfl | rfl | rfl
  all_goals exact ⟨_, ⟨rfl, rfl, .name (ascii.ok (ascii_of rfl)) (by decide)⟩⟩
theorem all_at {m : Nat} {p : Nat → Bool} (h : (List.range m).all p = true) {k : Nat} (hk : k < m) : p k = true := List.all_eq_true.1 h k (List.mem_range.2 hk)
def kW (k : Nat) : List (List Int) := [[91], 35 :: digsZ k, [93]]
theorem kW_are {k : Nat} (hk : k < 64) : ToksAre (kW k) (tkK k) := .cons (.sign (by decide) (by decide) (by decide)) (.cons (.num (digs_z (by omega))) (.cons (.sign (by decide) (by decide) (by decide)) .nil))
theorem are_app {a b : List (List Int)} {s t : List TokZ} (h1 : ToksAre a s) (h2 : ToksAre b t) : ToksAre (a ++ b) (s ++ t) := by
  induction h1 with
  | nil => exact h2
  | cons h _ ih => exact .cons h ih
theorem chk_1 {x k : Nat} (hx : x < 5) (hk : k < 64) : chkT (memT1 x k) (memO (rmOf x 5) k) = true := all_at (all_at mem_1 hx) hk
theorem chk_2 {x y k : Nat} (hx : x < 5) (hy : y < 5) (hk : k < 64) : chkT (memT2 x y k) (memO (rmOf x y) k) = true := all_at (all_at (all_at mem_2 hx) hy) hk
theorem chk_3 {x y k : Nat} (hx : x < 5) (hy : y < 5) (hk : k < 64) : chkT (memT3 x y k) (memO (rmOf x y) k) = true := all_at (all_at (all_at mem_3 hx) hy) hk
set_option maxHeartbeats 2000000 in
set_option maxRecDepth 100000 in
theorem walk (a0 : Int) (hw0 : (Lit.int .i64 a0).wf = true) (a1 : Int) (hw1 : (Lit.int .i64 a1).wf = true) (a2 : Int) (hw2 : (Lit.int .i64 a2).wf = true) (w0 : World) (hT : Tabs w0) :
    Calls Tryd.prog 4 #[.int .i64 a0, .int .i64 a1, .int .i64 a2] w0 fun e w' => e = .returned (.bool true) ∧ Below w0.heap.size w0 w' := by
  clear hw0 hw1 hw2
  have hR := Own.start w0
  obtain ⟨x, hx, hx5⟩ : ∃ x : Nat, (a0 % 256).tmod 5 = (x : Int) ∧ x < 5 := ⟨((a0 % 256) % 5).toNat, by rw [rem_in (by omega)]; omega, by omega⟩
  obtain ⟨y, hy, hy6⟩ : ∃ y : Nat, (a1 % 256).tmod 6 = (y : Int) ∧ y < 6 := ⟨((a1 % 256) % 6).toNat, by rw [rem_in (by omega)]; omega, by omega⟩
  obtain ⟨k, hk, hk64⟩ : ∃ k : Nat, a2 / 2 % 64 = (k : Int) ∧ k < 64 := ⟨(a2 / 2 % 64).toNat, by omega, by omega⟩
  have HA := Lib.hid (show bits .and .i64 a0 255 = a0 % 256 from i64_and255 a0)
  have HB := Lib.hid (show bits .and .i64 a1 255 = a1 % 256 from i64_and255 a1)
  have HX := Lib.hid hx
  have HY := Lib.hid hy
  have HSH := Lib.hid (show a2 / 2 ^ 1 = a2 / 2 from rfl)
  have HK := Lib.hid (show bits .and .i64 (a2 / 2) 63 = (k : Int) from (i64_mask (a2 / 2) 6 63 (by decide) (by decide)).trans hk)
  have HF := Lib.hid (show bits .and .i64 a2 1 = a2 % 2 from i64_mask a2 1 1 (by decide) (by decide))
  have HK100 := Lib.hid (show k < 100 by omega)
  have HCT := Lib.hid (show [(35 : Int)].length + (digsZ k).length ≤ 1000000 by unfold digsZ; split <;> simp)
  obtain ⟨sx, hsx⟩ := nam_x hx5
  clear hx hy hk
  go_enter Tryd.func4, Tryd.ntmps4
  go_upto_region 3 with (first
    | ((with_reducible apply wpList_buildS hR); exact rfl; exact rfl; (exact bStr5 _ _ _ _ _); clear hR; intro gs w hR; simp only [cS, cZ])
    | ((with_reducible apply q_ls hR); exact rfl; (with_reducible apply t_numE (op := .and)); (apply EvC.now; exact rfl); (apply EvC.now; exact rfl); exact rfl; (with_reducible first | exact HA.out | exact HB.out); (simp only [cS, cZ]; exact rfl); clear hR; intro w hR)
    | ((with_reducible apply q_ls hR); exact rfl; (with_reducible apply t_rem); (apply EvC.now; exact rfl); (apply EvC.now; exact rfl); (decide); (with_reducible first | exact HX.out | exact HY.out); (simp only [cS, cZ]; exact rfl); clear hR; intro w hR))
  have hSt : Strs w (.slice (some ⟨gs, 0, none⟩) 5 5) memN := strs_row hR (by (focus (repeat (first | apply List.Mem.head | apply List.Mem.tail | apply List.mem_append_right)))) rfl rfl memN_ok (by decide)
  have hX0 := hSt.cell hsx.el
  have hcell : ∀ {i : Nat} {t : List Int}, memN[i]? = some t → w.cell? ((⟨gs, 0, none⟩ : Addr).add i) = some (.string (strOfNums t)) := fun h => hSt.cell h
  clear hSt
  replace hT := hT.own hR
  have hZ2 := (Since.start w0).own hR
  have hR2 := hR.fresh
  clear hR
  try clear hZ
  have hZ := hZ2
  have hR := hR2
  clear hZ2 hR2
  have HXC := Lib.hid (show w.cell? ((⟨gs, 0, none⟩ : Addr).add ((x : Int).toNat * 1)) = some (.string (strOfNums sx)) by rw [Nat.mul_one]; exact hX0)
  have HXB := Lib.hid (show (0 : Int) ≤ x ∧ (x : Int) < (5 : Nat) by omega)
  clear hX0
  clear HA HB HX HY
  by_cases hy5 : y < 5
  · obtain ⟨sy, hsy⟩ := nam_x hy5
    have hY0 := hcell hsy.el
    have HYC := Lib.hid (show w.cell? ((⟨gs, 0, none⟩ : Addr).add ((y : Int).toNat * 1)) = some (.string (strOfNums sy)) by rw [Nat.mul_one]; exact hY0)
    have HYB := Lib.hid (show (0 : Int) ≤ y ∧ (y : Int) < (5 : Nat) by omega)
    clear hY0 hcell
    have HY5 := Lib.hid (show cmpB .lss (y : Int) 5 = some true from congrArg some (decide_eq_true (by omega)))
    by_cases hf : a2 % 2 = 1
    · have HF1 := Lib.hid (show cmpB .eql (a2 % 2) 1 = some true from congrArg some (decide_eq_true hf))
      go_upto_region 7 with (first
    | ((with_reducible apply q_ls hR); exact rfl; (with_reducible apply t_six Tryd.underlying23 iStrE); (apply EvC.now; exact rfl); (apply EvC.now; exact rfl); exact HXB.out; (simp only [cS, cZ]; exact rfl); clear hR; intro w hR)
    | ((with_reducible apply q_ls hR); exact rfl; (with_reducible apply t_oldOne tStrE); (apply EvC.now; exact rfl); (exact HXC.out); exact rfl; (simp only [cS, cZ]; exact rfl); clear hR; intro w hR)
    | ((with_reducible apply wpList_buildS hR); exact rfl; exact rfl; (exact bStr3 _ _ _); clear hR; intro gs w hR; simp only [cS, cZ])
    | ((with_reducible apply q_ls hR); exact rfl; (with_reducible apply t_shrE (k := 1)); (apply EvC.now; exact rfl); (apply EvC.now; exact rfl); exact rfl; (decide); exact HSH.out; (simp only [cS, cZ]; exact rfl); clear hR; intro w hR)
    | ((with_reducible apply q_ls hR); exact rfl; (with_reducible apply t_numE (op := .and)); (apply EvC.now; exact rfl); (apply EvC.now; exact rfl); exact rfl; (with_reducible first | exact HK.out | exact HF.out); (simp only [cS, cZ]; exact rfl); clear hR; intro w hR)
    | ((with_reducible apply q_ls hR); exact rfl; (with_reducible apply t_cmp); (apply EvC.now; exact rfl); (apply EvC.now; exact rfl); (with_reducible first | exact HF1.out | exact HY5.out); (simp only [cS, cZ]; exact rfl); clear hR; intro w hR)
    | (go_at_call 11; refine (numL_any (n := k) HK100.out _).mono ?_; rintro e w' ⟨rfl, hb⟩; replace hR := hR.grow hb; clear hb)
    | ((with_reducible apply q_ls hR); exact rfl; (with_reducible apply t_catE); (exact lit_now l35); (apply EvC.now; exact rfl); exact HCT.out; exact rfl; (simp only [cS, cZ]; exact rfl); clear hR; intro w hR)
    | ((with_reducible apply wpList_buildS hR); exact rfl; exact rfl; (exact bStr3 _ _ _); clear hR; intro gs w hR; simp only [cS, cZ])
    | ((with_reducible apply wpList_appN hR tStrsK); exact rfl; exact rfl; exact rfl; exact hS; (exact Les.tail Les.head); (focus (repeat (first | apply List.Mem.head | apply List.Mem.tail | apply List.mem_append_right))); (exact Part.all _); (exact rfl); (exact rfl); (decide); clear hR hS; intro s2 v2 w hR hS; simp only [cS, cZ]))
      refine wp_region_some hR [] (by (focus (repeat (first | exact List.Sublist.slnil | exact List.nil_sublist _ | exact List.Sublist.refl _ | apply List.Sublist.cons_cons | apply List.Sublist.cons)))) [0, 1, 2, 3, 4, 5, 6, 7] 2 (by kernel_rfl) (by kernel_rfl) (by kernel_rfl) rfl ?_
      clear hR; intro hR
      repeat (refine wpT_step rfl ?_; first
          | ((first | (with_reducible apply q_pl) | ((with_reducible apply q_gd); (first | (apply GdBy.gt; exact rfl; exact rfl) | (apply GdBy.gf; exact rfl; exact rfl) | (apply GdBy.t; exact rfl; exact rfl) | (apply GdBy.f; exact rfl; exact rfl)))); (with_reducible apply t_six Tryd.underlying23 iStrE); (apply EvC.now; exact rfl); (apply EvC.now; exact rfl); (with_reducible first | exact HXB.out | exact HYB.out); (simp only [cS, cZ]; exact rfl))
          | ((first | (with_reducible apply q_pl) | ((with_reducible apply q_gd); (first | (apply GdBy.gt; exact rfl; exact rfl) | (apply GdBy.gf; exact rfl; exact rfl) | (apply GdBy.t; exact rfl; exact rfl) | (apply GdBy.f; exact rfl; exact rfl)))); (with_reducible apply t_oldOne tStrE); (apply EvC.now; exact rfl); (with_reducible first | exact HXC.out | exact HYC.out); exact rfl; (simp only [cS, cZ]; exact rfl))
          | ((first | (with_reducible apply q_pl) | ((with_reducible apply q_gd); (first | (apply GdBy.gt; exact rfl; exact rfl) | (apply GdBy.gf; exact rfl; exact rfl) | (apply GdBy.t; exact rfl; exact rfl) | (apply GdBy.f; exact rfl; exact rfl)))); (first | ((with_reducible first | apply t_move | apply t_assign | apply t_and | apply t_or | apply t_cmp | apply t_not | apply t_one tIntV | apply t_one tStrE | apply t_part tOpd) <;> (first | (focus (repeat (first | (apply EvC.gv; exact rfl; (with_reducible first | exact Imp.refl _ | (apply Imp.left; exact Imp.refl _) | (apply Imp.right; exact Imp.refl _) | (apply Imp.left; apply Imp.left; exact Imp.refl _))) | (apply EvC.now; exact rfl) | (with_reducible first | apply EvAll.cons | exact EvAll.nil))); done) | exact rfl | exact ext_opd _ | (focus (repeat (first | apply List.Mem.head | apply List.Mem.tail | apply List.mem_append_right)))))); (simp only [cS, cZ]; exact rfl))
          | ((with_reducible apply q_gd); (first | (apply GdBy.gt; exact rfl; exact rfl) | (apply GdBy.gf; exact rfl; exact rfl) | (apply GdBy.t; exact rfl; exact rfl) | (apply GdBy.f; exact rfl; exact rfl)); ((with_reducible apply t_num) <;> (first | (focus (repeat (first | (apply EvC.gv; exact rfl; (with_reducible first | exact Imp.refl _ | (apply Imp.left; exact Imp.refl _) | (apply Imp.right; exact Imp.refl _) | (apply Imp.left; apply Imp.left; exact Imp.refl _))) | (apply EvC.now; exact rfl) | (with_reducible first | apply EvAll.cons | exact EvAll.nil))); done) | exact rfl | exact ext_opd _ | (focus (repeat (first | apply List.Mem.head | apply List.Mem.tail | apply List.mem_append_right))))); (simp only [cS, cZ]; exact rfl))
          | ((with_reducible apply wpT1_gpure); (first | (apply GdBy.gt; exact rfl; exact rfl) | (apply GdBy.gf; exact rfl; exact rfl) | (apply GdBy.t; exact rfl; exact rfl) | (apply GdBy.f; exact rfl; exact rfl)); intro K hK; go_simp; refine hK _ ?_; clear hK K; simp only [cS, cZ])
          | ((with_reducible apply wpT1_pure); exact rfl; intro K hK; go_simp; refine hK _ ?_; clear hK K; simp only [cS, cZ]))
      refine wpT_nil ?_
      refine wpG_buildS hR (i := 8) (by kernel_rfl) rfl rfl rfl (bStr5 _ _ _ _ _) (by (focus (repeat (first | exact List.Sublist.slnil | exact List.nil_sublist _ | exact List.Sublist.refl _ | apply List.Sublist.cons_cons | apply List.Sublist.cons)))) ?_
      clear hR; intro gs w hR
      simp only [cS, cZ]
      refine wpG_slot hR (i := 9) (by kernel_rfl) rfl rfl (by (simp only [cS, cZ]; exact rfl)) ?_
      clear hR; intro w hR
      refine wpG_end hR (by kernel_rfl) ?_
      clear hR; intro w hR
      go_upto_region 9 with (first
    | ((with_reducible apply q_ls hR); exact rfl; (with_reducible apply t_shrE (k := 1)); (apply EvC.now; exact rfl); (apply EvC.now; exact rfl); exact rfl; (decide); exact HSH.out; (simp only [cS, cZ]; exact rfl); clear hR; intro w hR)
    | ((with_reducible apply q_ls hR); exact rfl; (with_reducible apply t_numE (op := .and)); (apply EvC.now; exact rfl); (apply EvC.now; exact rfl); exact rfl; (with_reducible first | exact HK.out | exact HF.out); (simp only [cS, cZ]; exact rfl); clear hR; intro w hR)
    | ((with_reducible apply q_ls hR); exact rfl; (with_reducible apply t_cmp); (apply EvC.now; exact rfl); (apply EvC.now; exact rfl); (with_reducible first | exact HF1.out | exact HY5.out); (simp only [cS, cZ]; exact rfl); clear hR; intro w hR)
    | (go_at_call 11; refine (numL_any (n := k) HK100.out _).mono ?_; rintro e w' ⟨rfl, hb⟩; replace hR := hR.grow hb; clear hb)
    | ((with_reducible apply q_ls hR); exact rfl; (with_reducible apply t_catE); (exact lit_now l35); (apply EvC.now; exact rfl); exact HCT.out; exact rfl; (simp only [cS, cZ]; exact rfl); clear hR; intro w hR)
    | ((with_reducible apply wpList_buildS hR); exact rfl; exact rfl; (exact bStr3 _ _ _); clear hR; intro gs w hR; simp only [cS, cZ])
    | ((with_reducible apply wpList_appN hR tStrsK); exact rfl; exact rfl; exact rfl; exact hS; (exact Les.tail Les.head); (focus (repeat (first | apply List.Mem.head | apply List.Mem.tail | apply List.mem_append_right))); (exact Part.all _); (exact rfl); (exact rfl); (decide); clear hR hS; intro s2 v2 w hR hS; simp only [cS, cZ]))
      refine wp_region_some hR [] (by (focus (repeat (first | exact List.Sublist.slnil | exact List.nil_sublist _ | exact List.Sublist.refl _ | apply List.Sublist.cons_cons | apply List.Sublist.cons)))) [0, 1, 2, 3, 4, 5, 6, 7] 2 (by kernel_rfl) (by kernel_rfl) (by kernel_rfl) rfl ?_
      clear hR; intro hR
      repeat (refine wpT_step rfl ?_; first
          | ((first | (with_reducible apply q_pl) | ((with_reducible apply q_gd); (first | (apply GdBy.gt; exact rfl; exact rfl) | (apply GdBy.gf; exact rfl; exact rfl) | (apply GdBy.t; exact rfl; exact rfl) | (apply GdBy.f; exact rfl; exact rfl)))); (with_reducible apply t_six Tryd.underlying23 iStrE); (apply EvC.now; exact rfl); (apply EvC.now; exact rfl); (with_reducible first | exact HXB.out | exact HYB.out); (simp only [cS, cZ]; exact rfl))
          | ((first | (with_reducible apply q_pl) | ((with_reducible apply q_gd); (first | (apply GdBy.gt; exact rfl; exact rfl) | (apply GdBy.gf; exact rfl; exact rfl) | (apply GdBy.t; exact rfl; exact rfl) | (apply GdBy.f; exact rfl; exact rfl)))); (with_reducible apply t_oldOne tStrE); (apply EvC.now; exact rfl); (with_reducible first | exact HXC.out | exact HYC.out); exact rfl; (simp only [cS, cZ]; exact rfl))
          | ((first | (with_reducible apply q_pl) | ((with_reducible apply q_gd); (first | (apply GdBy.gt; exact rfl; exact rfl) | (apply GdBy.gf; exact rfl; exact rfl) | (apply GdBy.t; exact rfl; exact rfl) | (apply GdBy.f; exact rfl; exact rfl)))); (first | ((with_reducible first | apply t_move | apply t_assign | apply t_and | apply t_or | apply t_cmp | apply t_not | apply t_one tIntV | apply t_one tStrE | apply t_part tOpd) <;> (first | (focus (repeat (first | (apply EvC.gv; exact rfl; (with_reducible first | exact Imp.refl _ | (apply Imp.left; exact Imp.refl _) | (apply Imp.right; exact Imp.refl _) | (apply Imp.left; apply Imp.left; exact Imp.refl _))) | (apply EvC.now; exact rfl) | (with_reducible first | apply EvAll.cons | exact EvAll.nil))); done) | exact rfl | exact ext_opd _ | (focus (repeat (first | apply List.Mem.head | apply List.Mem.tail | apply List.mem_append_right)))))); (simp only [cS, cZ]; exact rfl))
          | ((with_reducible apply q_gd); (first | (apply GdBy.gt; exact rfl; exact rfl) | (apply GdBy.gf; exact rfl; exact rfl) | (apply GdBy.t; exact rfl; exact rfl) | (apply GdBy.f; exact rfl; exact rfl)); ((with_reducible apply t_num) <;> (first | (focus (repeat (first | (apply EvC.gv; exact rfl; (with_reducible first | exact Imp.refl _ | (apply Imp.left; exact Imp.refl _) | (apply Imp.right; exact Imp.refl _) | (apply Imp.left; apply Imp.left; exact Imp.refl _))) | (apply EvC.now; exact rfl) | (with_reducible first | apply EvAll.cons | exact EvAll.nil))); done) | exact rfl | exact ext_opd _ | (focus (repeat (first | apply List.Mem.head | apply List.Mem.tail | apply List.mem_append_right))))); (simp only [cS, cZ]; exact rfl))
          | ((with_reducible apply wpT1_gpure); (first | (apply GdBy.gt; exact rfl; exact rfl) | (apply GdBy.gf; exact rfl; exact rfl) | (apply GdBy.t; exact rfl; exact rfl) | (apply GdBy.f; exact rfl; exact rfl)); intro K hK; go_simp; refine hK _ ?_; clear hK K; simp only [cS, cZ])
          | ((with_reducible apply wpT1_pure); exact rfl; intro K hK; go_simp; refine hK _ ?_; clear hK K; simp only [cS, cZ]))
      refine wpT_nil ?_
      refine wpG_buildS hR (i := 8) (by kernel_rfl) rfl rfl rfl (bStr6 _ _ _ _ _ _) (by (focus (repeat (first | exact List.Sublist.slnil | exact List.nil_sublist _ | exact List.Sublist.refl _ | apply List.Sublist.cons_cons | apply List.Sublist.cons)))) ?_
      clear hR; intro gs w hR
      simp only [cS, cZ]
      refine wpG_slot hR (i := 9) (by kernel_rfl) rfl rfl (by (simp only [cS, cZ]; exact rfl)) ?_
      clear hR; intro w hR
      refine wpG_end hR (by kernel_rfl) ?_
      clear hR; intro w hR
      have hS : Sl 9 1 [(gs, _, 9)] (.slice (some ⟨gs, 0, none⟩) 6 6) 6 (([[91], sx, [93], [91], sy, [93]] : List (List Int)).flatMap cellT) := sl_row rfl rfl (by decide)
      go_upto_region 12 with (first
    | ((with_reducible apply q_ls hR); exact rfl; (with_reducible apply t_shrE (k := 1)); (apply EvC.now; exact rfl); (apply EvC.now; exact rfl); exact rfl; (decide); exact HSH.out; (simp only [cS, cZ]; exact rfl); clear hR; intro w hR)
    | ((with_reducible apply q_ls hR); exact rfl; (with_reducible apply t_numE (op := .and)); (apply EvC.now; exact rfl); (apply EvC.now; exact rfl); exact rfl; (with_reducible first | exact HK.out | exact HF.out); (simp only [cS, cZ]; exact rfl); clear hR; intro w hR)
    | ((with_reducible apply q_ls hR); exact rfl; (with_reducible apply t_cmp); (apply EvC.now; exact rfl); (apply EvC.now; exact rfl); (with_reducible first | exact HF1.out | exact HY5.out); (simp only [cS, cZ]; exact rfl); clear hR; intro w hR)
    | (go_at_call 11; refine (numL_any (n := k) HK100.out _).mono ?_; rintro e w' ⟨rfl, hb⟩; replace hR := hR.grow hb; clear hb)
    | ((with_reducible apply q_ls hR); exact rfl; (with_reducible apply t_catE); (exact lit_now l35); (apply EvC.now; exact rfl); exact HCT.out; exact rfl; (simp only [cS, cZ]; exact rfl); clear hR; intro w hR)
    | ((with_reducible apply wpList_buildS hR); exact rfl; exact rfl; (exact bStr3 _ _ _); clear hR; intro gs w hR; simp only [cS, cZ])
    | ((with_reducible apply wpList_appN hR tStrsK); exact rfl; exact rfl; exact rfl; exact hS; (exact Les.tail Les.head); (focus (repeat (first | apply List.Mem.head | apply List.Mem.tail | apply List.mem_append_right))); (exact Part.all _); (exact rfl); (exact rfl); (decide); clear hR hS; intro s2 v2 w hR hS; simp only [cS, cZ]))
      have hAr : ToksAre ([[91], sx, [93], [91], sy, [93]] ++ kW k) (memT3 x y k) := by
        unfold memT3; rw [hsx.ge, hsy.ge]
        exact are_app (.cons (.sign (by decide) (by decide) (by decide)) (.cons hsx.tok (.cons (.sign (by decide) (by decide) (by decide)) (.cons (.sign (by decide) (by decide) (by decide)) (.cons hsy.tok (.cons (.sign (by decide) (by decide) (by decide)) .nil)))))) (kW_are hk64)
      have hP := chk_of (chk_3 hx5 hy5 hk64)
      clear HYC HYB HY5 HF1 hf hsx hsy
      have hSt : Strs w v2 ([[91], sx, [93], [91], sy, [93]] ++ kW k) := (hS.cast (ys := ([[91], sx, [93], [91], sy, [93]] ++ kW k).flatMap cellT) rfl).strs hR (fun r hr => List.mem_append_left _ hr) hAr.okS
      clear hS HXC HXB HSH HK HF HCT
      replace hT := hT.own hR
      have hZ2 := (hZ).own hR
      have hR2 := hR.fresh
      clear hR
      try clear hZ
      have hZ := hZ2
      have hR := hR2
      clear hZ2 hR2
      by_cases x4 : x = 4
      · have e : rmOf x y = -1 := if_pos (.inl x4)
        have hP2 : opdR (parseM zTab 40 (.ex 1) (startS (memT3 x y k))) = (zeroOpd, 3) := hP.2.trans (by rw [e]; rfl)
        clear e
        have E1 := Lib.hid (show cmpB .eql (x : Int) 4 = some true from congrArg some (decide_eq_true (by omega)))
        clear x4
        go_upto_region 22 with (first
            | (go_at_call 9; refine (toksE_any hAr (hSt.own hR) (Nat.le_of_ble_eq_true rfl)).mono ?_; rintro e w' ⟨vt, rfl, hb, hTk⟩; replace hR := hR.grow hb; clear hb)
            | ((with_reducible apply wpList_built); exact rfl; exact rfl; exact bTab0; (simp only [cS, cZ]; exact rfl))
            | (go_at_call 12; (refine (operE_any (hT.own hR) (zTab_in _) hTk _ (hP.1)).mono ?_; rintro e w' ⟨rfl, hb⟩; replace hR := hR.grow hb; clear hb; rw [hP2]))
            | ((with_reducible apply q_ls hR); exact rfl; (with_reducible apply t_extract); (apply EvC.now; exact rfl); exact rfl; (simp only [cS, cZ]; exact rfl); clear hR; intro w hR)
            | ((with_reducible apply q_ls hR); exact rfl; (with_reducible apply t_cmp); (apply EvC.now; exact rfl); (apply EvC.now; exact rfl); (with_reducible first | exact E1.out | exact E2.out | exact E3.out | exact E4.out | exact E5.out | exact E6.out | exact E7.out); (simp only [cS, cZ]; exact rfl); clear hR; intro w hR)
            | ((with_reducible apply q_ls hR); exact rfl; (with_reducible apply t_numE); (apply EvC.now; exact rfl); (apply EvC.now; exact rfl); exact rfl; (with_reducible first | exact M1.out | exact M2.out | exact M3.out); (simp only [cS, cZ]; exact rfl); clear hR; intro w hR)
        
            | ((with_reducible apply wpList_box hR); exact rfl; exact rfl; clear hR; intro g w hR; simp only [cS, cZ])
            | ((with_reducible apply wpList_make hR zOpd); exact rfl; clear hR; intro g w hR; simp only [cS, cZ])
            | ((with_reducible apply q_ls hR); exact rfl; ((with_reducible first | apply t_one tIntV | apply t_one tStrE | apply t_part tOpd) <;> (first | (focus (repeat (first | (apply EvC.gv; exact rfl; (with_reducible first | exact Imp.refl _ | (apply Imp.left; exact Imp.refl _) | (apply Imp.right; exact Imp.refl _) | (apply Imp.left; apply Imp.left; exact Imp.refl _))) | (apply EvC.now; exact rfl) | (with_reducible first | apply EvAll.cons | exact EvAll.nil))); done) | exact rfl | exact ext_opd _ | (focus (repeat (first | apply List.Mem.head | apply List.Mem.tail | apply List.mem_append_right))))); (simp only [cS, cZ]; exact rfl); clear hR; intro w hR)
            | ((with_reducible apply wpList_put hR tOpd); exact rfl; exact rfl; exact rfl; (focus (repeat (first | apply List.Mem.head | apply List.Mem.tail | apply List.mem_append_right))); exact put_opd _ _; exact rfl; exact Nat.le_refl 12; exact one_opd _; (focus (repeat (first | apply Upd.head | apply Upd.tail))); clear hR; intro w hR))
        refine wp_region_tame hR [0, 1, 2, 3, 4, 5, 6, 7, 8, 9, 10] rfl ?_
        repeat (refine wpT_step rfl ?_; first
            | ((with_reducible apply q_kn); exact rfl; (with_reducible apply t_call Tryd.call10); (first | (focus (repeat (first | (apply EvC.gv; exact rfl; (with_reducible first | exact Imp.refl _ | (apply Imp.left; exact Imp.refl _) | (apply Imp.right; exact Imp.refl _) | (apply Imp.left; apply Imp.left; exact Imp.refl _))) | (apply EvC.now; exact rfl) | (with_reducible first | apply EvAll.cons | exact EvAll.nil))); done) | exact rfl | exact ext_opd _ | (focus (repeat (first | apply List.Mem.head | apply List.Mem.tail | apply List.mem_append_right)))); (intro hcc w hC; exact tame_below (awake_any (hT.own hC)) hC); (simp only [cS, cZ]; exact rfl))
            | ((with_reducible apply q_kn); exact rfl; (with_reducible apply t_eql gOpd); (apply EvC.now; exact rfl); (apply EvC.now; exact rfl); exact eqO_self _; (simp only [cS, cZ]; exact rfl))
            | ((with_reducible apply q_kn); exact rfl; (with_reducible apply t_cmp (op := .eql)); (apply EvC.now; exact rfl); (apply EvC.now; exact rfl); exact rfl; (simp only [cS, cZ]; exact rfl))
            | ((with_reducible apply q_kn); exact rfl; (with_reducible apply t_built); exact rfl; (with_reducible first | exact bOpd0 | exact bValN _ _ | exact bOpdM _ _); (simp only [cS, cZ]; exact rfl))
            | ((with_reducible apply q_kn); exact rfl; (first | ((with_reducible first | apply t_move | apply t_assign | apply t_one tIntV | apply t_one tStrE | apply t_part tOpd) <;> (first | (focus (repeat (first | (apply EvC.gv; exact rfl; (with_reducible first | exact Imp.refl _ | (apply Imp.left; exact Imp.refl _) | (apply Imp.right; exact Imp.refl _) | (apply Imp.left; apply Imp.left; exact Imp.refl _))) | (apply EvC.now; exact rfl) | (with_reducible first | apply EvAll.cons | exact EvAll.nil))); done) | exact rfl | exact ext_opd _ | (focus (repeat (first | apply List.Mem.head | apply List.Mem.tail | apply List.mem_append_right))))) | ((with_reducible apply t_pick); (apply EvC.now; exact rfl); (apply EvC.now; exact rfl))); (simp only [cS, cZ]; exact rfl))
            | ((with_reducible apply wpT1_skipL); exact rfl; (simp only [cS, cZ]; exact rfl)))
        refine wpT_nil ?_
        clear hR; intro w hR
        go_wp2_with fail
        go_ret
        exact ⟨ret_bool (by kernel_rfl), (hZ.own hR).below⟩
      by_cases y4 : y = 4
      · have e : rmOf x y = -1 := if_pos (.inr y4)
        have hP2 : opdR (parseM zTab 40 (.ex 1) (startS (memT3 x y k))) = (zeroOpd, 3) := hP.2.trans (by rw [e]; rfl)
        clear e
        have E1 := Lib.hid (show cmpB .eql (x : Int) 4 = some false from congrArg some (decide_eq_false (by omega)))
        have E2 := Lib.hid (show cmpB .eql (y : Int) 4 = some true from congrArg some (decide_eq_true (by omega)))
        clear x4 y4
        go_upto_region 22 with (first
            | (go_at_call 9; refine (toksE_any hAr (hSt.own hR) (Nat.le_of_ble_eq_true rfl)).mono ?_; rintro e w' ⟨vt, rfl, hb, hTk⟩; replace hR := hR.grow hb; clear hb)
            | ((with_reducible apply wpList_built); exact rfl; exact rfl; exact bTab0; (simp only [cS, cZ]; exact rfl))
            | (go_at_call 12; (refine (operE_any (hT.own hR) (zTab_in _) hTk _ (hP.1)).mono ?_; rintro e w' ⟨rfl, hb⟩; replace hR := hR.grow hb; clear hb; rw [hP2]))
            | ((with_reducible apply q_ls hR); exact rfl; (with_reducible apply t_extract); (apply EvC.now; exact rfl); exact rfl; (simp only [cS, cZ]; exact rfl); clear hR; intro w hR)
            | ((with_reducible apply q_ls hR); exact rfl; (with_reducible apply t_cmp); (apply EvC.now; exact rfl); (apply EvC.now; exact rfl); (with_reducible first | exact E1.out | exact E2.out | exact E3.out | exact E4.out | exact E5.out | exact E6.out | exact E7.out); (simp only [cS, cZ]; exact rfl); clear hR; intro w hR)
            | ((with_reducible apply q_ls hR); exact rfl; (with_reducible apply t_numE); (apply EvC.now; exact rfl); (apply EvC.now; exact rfl); exact rfl; (with_reducible first | exact M1.out | exact M2.out | exact M3.out); (simp only [cS, cZ]; exact rfl); clear hR; intro w hR)
        
            | ((with_reducible apply wpList_box hR); exact rfl; exact rfl; clear hR; intro g w hR; simp only [cS, cZ])
            | ((with_reducible apply wpList_make hR zOpd); exact rfl; clear hR; intro g w hR; simp only [cS, cZ])
            | ((with_reducible apply q_ls hR); exact rfl; ((with_reducible first | apply t_one tIntV | apply t_one tStrE | apply t_part tOpd) <;> (first | (focus (repeat (first | (apply EvC.gv; exact rfl; (with_reducible first | exact Imp.refl _ | (apply Imp.left; exact Imp.refl _) | (apply Imp.right; exact Imp.refl _) | (apply Imp.left; apply Imp.left; exact Imp.refl _))) | (apply EvC.now; exact rfl) | (with_reducible first | apply EvAll.cons | exact EvAll.nil))); done) | exact rfl | exact ext_opd _ | (focus (repeat (first | apply List.Mem.head | apply List.Mem.tail | apply List.mem_append_right))))); (simp only [cS, cZ]; exact rfl); clear hR; intro w hR)
            | ((with_reducible apply wpList_put hR tOpd); exact rfl; exact rfl; exact rfl; (focus (repeat (first | apply List.Mem.head | apply List.Mem.tail | apply List.mem_append_right))); exact put_opd _ _; exact rfl; exact Nat.le_refl 12; exact one_opd _; (focus (repeat (first | apply Upd.head | apply Upd.tail))); clear hR; intro w hR))
        refine wp_region_tame hR [0, 1, 2, 3, 4, 5, 6, 7, 8, 9, 10] rfl ?_
        repeat (refine wpT_step rfl ?_; first
            | ((with_reducible apply q_kn); exact rfl; (with_reducible apply t_call Tryd.call10); (first | (focus (repeat (first | (apply EvC.gv; exact rfl; (with_reducible first | exact Imp.refl _ | (apply Imp.left; exact Imp.refl _) | (apply Imp.right; exact Imp.refl _) | (apply Imp.left; apply Imp.left; exact Imp.refl _))) | (apply EvC.now; exact rfl) | (with_reducible first | apply EvAll.cons | exact EvAll.nil))); done) | exact rfl | exact ext_opd _ | (focus (repeat (first | apply List.Mem.head | apply List.Mem.tail | apply List.mem_append_right)))); (intro hcc w hC; exact tame_below (awake_any (hT.own hC)) hC); (simp only [cS, cZ]; exact rfl))
            | ((with_reducible apply q_kn); exact rfl; (with_reducible apply t_eql gOpd); (apply EvC.now; exact rfl); (apply EvC.now; exact rfl); exact eqO_self _; (simp only [cS, cZ]; exact rfl))
            | ((with_reducible apply q_kn); exact rfl; (with_reducible apply t_cmp (op := .eql)); (apply EvC.now; exact rfl); (apply EvC.now; exact rfl); exact rfl; (simp only [cS, cZ]; exact rfl))
            | ((with_reducible apply q_kn); exact rfl; (with_reducible apply t_built); exact rfl; (with_reducible first | exact bOpd0 | exact bValN _ _ | exact bOpdM _ _); (simp only [cS, cZ]; exact rfl))
            | ((with_reducible apply q_kn); exact rfl; (first | ((with_reducible first | apply t_move | apply t_assign | apply t_one tIntV | apply t_one tStrE | apply t_part tOpd) <;> (first | (focus (repeat (first | (apply EvC.gv; exact rfl; (with_reducible first | exact Imp.refl _ | (apply Imp.left; exact Imp.refl _) | (apply Imp.right; exact Imp.refl _) | (apply Imp.left; apply Imp.left; exact Imp.refl _))) | (apply EvC.now; exact rfl) | (with_reducible first | apply EvAll.cons | exact EvAll.nil))); done) | exact rfl | exact ext_opd _ | (focus (repeat (first | apply List.Mem.head | apply List.Mem.tail | apply List.mem_append_right))))) | ((with_reducible apply t_pick); (apply EvC.now; exact rfl); (apply EvC.now; exact rfl))); (simp only [cS, cZ]; exact rfl))
            | ((with_reducible apply wpT1_skipL); exact rfl; (simp only [cS, cZ]; exact rfl)))
        refine wpT_nil ?_
        clear hR; intro w hR
        go_wp2_with fail
        go_ret
        exact ⟨ret_bool (by kernel_rfl), (hZ.own hR).below⟩
      have e0 : rmOf x y = if x < 2 ∧ 2 ≤ y then 2 * (x : Int) + y - 2 else if y < 2 ∧ 2 ≤ x then 2 * (y : Int) + x - 2 else -1 := by
        unfold rmOf; rw [if_neg (by omega), if_neg (by omega)]
      have E1 := Lib.hid (show cmpB .eql (x : Int) 4 = some false from congrArg some (decide_eq_false (by omega)))
      have E2 := Lib.hid (show cmpB .eql (y : Int) 4 = some false from congrArg some (decide_eq_false (by omega)))
      have E3 := Lib.hid (show cmpB .lss (y : Int) 0 = some false from congrArg some (decide_eq_false (by omega)))
      by_cases x2 : x < 2
      · have E4 := Lib.hid (show cmpB .lss (x : Int) 2 = some true from congrArg some (decide_eq_true (by omega)))
        by_cases y2 : y < 2
        · have e : rmOf x y = -1 := by rw [e0, if_neg (by omega), if_neg (by omega)]
          have hP2 : opdR (parseM zTab 40 (.ex 1) (startS (memT3 x y k))) = (zeroOpd, 3) := hP.2.trans (by rw [e]; rfl)
          clear e
          have E5 := Lib.hid (show cmpB .geq (y : Int) 2 = some false from congrArg some (decide_eq_false (by omega)))
          have E6 := Lib.hid (show cmpB .lss (y : Int) 2 = some true from congrArg some (decide_eq_true (by omega)))
          have E7 := Lib.hid (show cmpB .geq (x : Int) 2 = some false from congrArg some (decide_eq_false (by omega)))
          clear e0 x4 y4 x2 y2
          go_upto_region 22 with (first
              | (go_at_call 9; refine (toksE_any hAr (hSt.own hR) (Nat.le_of_ble_eq_true rfl)).mono ?_; rintro e w' ⟨vt, rfl, hb, hTk⟩; replace hR := hR.grow hb; clear hb)
              | ((with_reducible apply wpList_built); exact rfl; exact rfl; exact bTab0; (simp only [cS, cZ]; exact rfl))
              | (go_at_call 12; (refine (operE_any (hT.own hR) (zTab_in _) hTk _ (hP.1)).mono ?_; rintro e w' ⟨rfl, hb⟩; replace hR := hR.grow hb; clear hb; rw [hP2]))
              | ((with_reducible apply q_ls hR); exact rfl; (with_reducible apply t_extract); (apply EvC.now; exact rfl); exact rfl; (simp only [cS, cZ]; exact rfl); clear hR; intro w hR)
              | ((with_reducible apply q_ls hR); exact rfl; (with_reducible apply t_cmp); (apply EvC.now; exact rfl); (apply EvC.now; exact rfl); (with_reducible first | exact E1.out | exact E2.out | exact E3.out | exact E4.out | exact E5.out | exact E6.out | exact E7.out); (simp only [cS, cZ]; exact rfl); clear hR; intro w hR)
              | ((with_reducible apply q_ls hR); exact rfl; (with_reducible apply t_numE); (apply EvC.now; exact rfl); (apply EvC.now; exact rfl); exact rfl; (with_reducible first | exact M1.out | exact M2.out | exact M3.out); (simp only [cS, cZ]; exact rfl); clear hR; intro w hR)
          
              | ((with_reducible apply wpList_box hR); exact rfl; exact rfl; clear hR; intro g w hR; simp only [cS, cZ])
              | ((with_reducible apply wpList_make hR zOpd); exact rfl; clear hR; intro g w hR; simp only [cS, cZ])
              | ((with_reducible apply q_ls hR); exact rfl; ((with_reducible first | apply t_one tIntV | apply t_one tStrE | apply t_part tOpd) <;> (first | (focus (repeat (first | (apply EvC.gv; exact rfl; (with_reducible first | exact Imp.refl _ | (apply Imp.left; exact Imp.refl _) | (apply Imp.right; exact Imp.refl _) | (apply Imp.left; apply Imp.left; exact Imp.refl _))) | (apply EvC.now; exact rfl) | (with_reducible first | apply EvAll.cons | exact EvAll.nil))); done) | exact rfl | exact ext_opd _ | (focus (repeat (first | apply List.Mem.head | apply List.Mem.tail | apply List.mem_append_right))))); (simp only [cS, cZ]; exact rfl); clear hR; intro w hR)
              | ((with_reducible apply wpList_put hR tOpd); exact rfl; exact rfl; exact rfl; (focus (repeat (first | apply List.Mem.head | apply List.Mem.tail | apply List.mem_append_right))); exact put_opd _ _; exact rfl; exact Nat.le_refl 12; exact one_opd _; (focus (repeat (first | apply Upd.head | apply Upd.tail))); clear hR; intro w hR))
          refine wp_region_tame hR [0, 1, 2, 3, 4, 5, 6, 7, 8, 9, 10] rfl ?_
          repeat (refine wpT_step rfl ?_; first
              | ((with_reducible apply q_kn); exact rfl; (with_reducible apply t_call Tryd.call10); (first | (focus (repeat (first | (apply EvC.gv; exact rfl; (with_reducible first | exact Imp.refl _ | (apply Imp.left; exact Imp.refl _) | (apply Imp.right; exact Imp.refl _) | (apply Imp.left; apply Imp.left; exact Imp.refl _))) | (apply EvC.now; exact rfl) | (with_reducible first | apply EvAll.cons | exact EvAll.nil))); done) | exact rfl | exact ext_opd _ | (focus (repeat (first | apply List.Mem.head | apply List.Mem.tail | apply List.mem_append_right)))); (intro hcc w hC; exact tame_below (awake_any (hT.own hC)) hC); (simp only [cS, cZ]; exact rfl))
              | ((with_reducible apply q_kn); exact rfl; (with_reducible apply t_eql gOpd); (apply EvC.now; exact rfl); (apply EvC.now; exact rfl); exact eqO_self _; (simp only [cS, cZ]; exact rfl))
              | ((with_reducible apply q_kn); exact rfl; (with_reducible apply t_cmp (op := .eql)); (apply EvC.now; exact rfl); (apply EvC.now; exact rfl); exact rfl; (simp only [cS, cZ]; exact rfl))
              | ((with_reducible apply q_kn); exact rfl; (with_reducible apply t_built); exact rfl; (with_reducible first | exact bOpd0 | exact bValN _ _ | exact bOpdM _ _); (simp only [cS, cZ]; exact rfl))
              | ((with_reducible apply q_kn); exact rfl; (first | ((with_reducible first | apply t_move | apply t_assign | apply t_one tIntV | apply t_one tStrE | apply t_part tOpd) <;> (first | (focus (repeat (first | (apply EvC.gv; exact rfl; (with_reducible first | exact Imp.refl _ | (apply Imp.left; exact Imp.refl _) | (apply Imp.right; exact Imp.refl _) | (apply Imp.left; apply Imp.left; exact Imp.refl _))) | (apply EvC.now; exact rfl) | (with_reducible first | apply EvAll.cons | exact EvAll.nil))); done) | exact rfl | exact ext_opd _ | (focus (repeat (first | apply List.Mem.head | apply List.Mem.tail | apply List.mem_append_right))))) | ((with_reducible apply t_pick); (apply EvC.now; exact rfl); (apply EvC.now; exact rfl))); (simp only [cS, cZ]; exact rfl))
              | ((with_reducible apply wpT1_skipL); exact rfl; (simp only [cS, cZ]; exact rfl)))
          refine wpT_nil ?_
          clear hR; intro w hR
          go_wp2_with fail
          go_ret
          exact ⟨ret_bool (by kernel_rfl), (hZ.own hR).below⟩
        · have e : rmOf x y = 2 * (x : Int) + y - 2 := by rw [e0, if_pos (by omega)]
          have hP2 : opdR (parseM zTab 40 (.ex 1) (startS (memT3 x y k))) = (⟨5, 0, 2 * (x : Int) + y - 2, ⟨k, 0, 0, 0, 0, true⟩, 0, 0, false⟩, 0) := hP.2.trans (by rw [e]; exact if_neg (by omega))
          clear e
          have E5 := Lib.hid (show cmpB .geq (y : Int) 2 = some true from congrArg some (decide_eq_true (by omega)))
          have E6 := Lib.hid (show cmpB .lss (2 * (x : Int) + y - 2 : Int) 0 = some false from congrArg some (decide_eq_false (by omega)))
          have M1 := Lib.hid (show IntKind.i64.wrap (2 * (x : Int)) = 2 * (x : Int) from IntWalk.i64_in _ (by omega))
          have M2 := Lib.hid (show IntKind.i64.wrap (2 * (x : Int) + y) = 2 * (x : Int) + y from IntWalk.i64_in _ (by omega))
          have M3 := Lib.hid (show IntKind.i64.wrap (2 * (x : Int) + y - 2) = 2 * (x : Int) + y - 2 from IntWalk.i64_in _ (by omega))
          clear e0 x4 y4 x2 y2
          go_upto_region 23 with (first
              | (go_at_call 9; refine (toksE_any hAr (hSt.own hR) (Nat.le_of_ble_eq_true rfl)).mono ?_; rintro e w' ⟨vt, rfl, hb, hTk⟩; replace hR := hR.grow hb; clear hb)
              | ((with_reducible apply wpList_built); exact rfl; exact rfl; exact bTab0; (simp only [cS, cZ]; exact rfl))
              | (go_at_call 12; (refine (operE_any (hT.own hR) (zTab_in _) hTk _ (hP.1)).mono ?_; rintro e w' ⟨rfl, hb⟩; replace hR := hR.grow hb; clear hb; rw [hP2]))
              | ((with_reducible apply q_ls hR); exact rfl; (with_reducible apply t_extract); (apply EvC.now; exact rfl); exact rfl; (simp only [cS, cZ]; exact rfl); clear hR; intro w hR)
              | ((with_reducible apply q_ls hR); exact rfl; (with_reducible apply t_cmp); (apply EvC.now; exact rfl); (apply EvC.now; exact rfl); (with_reducible first | exact E1.out | exact E2.out | exact E3.out | exact E4.out | exact E5.out | exact E6.out | exact E7.out); (simp only [cS, cZ]; exact rfl); clear hR; intro w hR)
              | ((with_reducible apply q_ls hR); exact rfl; (with_reducible apply t_numE); (apply EvC.now; exact rfl); (apply EvC.now; exact rfl); exact rfl; (with_reducible first | exact M1.out | exact M2.out | exact M3.out); (simp only [cS, cZ]; exact rfl); clear hR; intro w hR)
          
              | ((with_reducible apply wpList_box hR); exact rfl; exact rfl; clear hR; intro g w hR; simp only [cS, cZ])
              | ((with_reducible apply wpList_make hR zOpd); exact rfl; clear hR; intro g w hR; simp only [cS, cZ])
              | ((with_reducible apply q_ls hR); exact rfl; ((with_reducible first | apply t_one tIntV | apply t_one tStrE | apply t_part tOpd) <;> (first | (focus (repeat (first | (apply EvC.gv; exact rfl; (with_reducible first | exact Imp.refl _ | (apply Imp.left; exact Imp.refl _) | (apply Imp.right; exact Imp.refl _) | (apply Imp.left; apply Imp.left; exact Imp.refl _))) | (apply EvC.now; exact rfl) | (with_reducible first | apply EvAll.cons | exact EvAll.nil))); done) | exact rfl | exact ext_opd _ | (focus (repeat (first | apply List.Mem.head | apply List.Mem.tail | apply List.mem_append_right))))); (simp only [cS, cZ]; exact rfl); clear hR; intro w hR)
              | ((with_reducible apply wpList_put hR tOpd); exact rfl; exact rfl; exact rfl; (focus (repeat (first | apply List.Mem.head | apply List.Mem.tail | apply List.mem_append_right))); exact put_opd _ _; exact rfl; exact Nat.le_refl 12; exact one_opd _; (focus (repeat (first | apply Upd.head | apply Upd.tail))); clear hR; intro w hR))
          refine wp_region_tame hR [0, 1, 2, 3, 4, 5, 6, 7, 8, 9, 10, 11, 12, 13] rfl ?_
          repeat (refine wpT_step rfl ?_; first
              | ((with_reducible apply q_kn); exact rfl; (with_reducible apply t_call Tryd.call10); (first | (focus (repeat (first | (apply EvC.gv; exact rfl; (with_reducible first | exact Imp.refl _ | (apply Imp.left; exact Imp.refl _) | (apply Imp.right; exact Imp.refl _) | (apply Imp.left; apply Imp.left; exact Imp.refl _))) | (apply EvC.now; exact rfl) | (with_reducible first | apply EvAll.cons | exact EvAll.nil))); done) | exact rfl | exact ext_opd _ | (focus (repeat (first | apply List.Mem.head | apply List.Mem.tail | apply List.mem_append_right)))); (intro hcc w hC; exact tame_below (awake_any (hT.own hC)) hC); (simp only [cS, cZ]; exact rfl))
              | ((with_reducible apply q_kn); exact rfl; (with_reducible apply t_eql gOpd); (apply EvC.now; exact rfl); (apply EvC.now; exact rfl); exact eqO_self _; (simp only [cS, cZ]; exact rfl))
              | ((with_reducible apply q_kn); exact rfl; (with_reducible apply t_cmp (op := .eql)); (apply EvC.now; exact rfl); (apply EvC.now; exact rfl); exact rfl; (simp only [cS, cZ]; exact rfl))
              | ((with_reducible apply q_kn); exact rfl; (with_reducible apply t_built); exact rfl; (with_reducible first | exact bOpd0 | exact bValN _ _ | exact bOpdM _ _); (simp only [cS, cZ]; exact rfl))
              | ((with_reducible apply q_kn); exact rfl; (first | ((with_reducible first | apply t_move | apply t_assign | apply t_one tIntV | apply t_one tStrE | apply t_part tOpd) <;> (first | (focus (repeat (first | (apply EvC.gv; exact rfl; (with_reducible first | exact Imp.refl _ | (apply Imp.left; exact Imp.refl _) | (apply Imp.right; exact Imp.refl _) | (apply Imp.left; apply Imp.left; exact Imp.refl _))) | (apply EvC.now; exact rfl) | (with_reducible first | apply EvAll.cons | exact EvAll.nil))); done) | exact rfl | exact ext_opd _ | (focus (repeat (first | apply List.Mem.head | apply List.Mem.tail | apply List.mem_append_right))))) | ((with_reducible apply t_pick); (apply EvC.now; exact rfl); (apply EvC.now; exact rfl))); (simp only [cS, cZ]; exact rfl))
              | ((with_reducible apply wpT1_skipL); exact rfl; (simp only [cS, cZ]; exact rfl)))
          refine wpT_nil ?_
          clear hR; intro w hR
          go_wp2_with fail
          go_ret
          exact ⟨ret_bool (by kernel_rfl), (hZ.own hR).below⟩
      · have E4 := Lib.hid (show cmpB .lss (x : Int) 2 = some false from congrArg some (decide_eq_false (by omega)))
        by_cases y2 : y < 2
        · have e : rmOf x y = 2 * (y : Int) + x - 2 := by rw [e0, if_neg (by omega), if_pos (by omega)]
          have hP2 : opdR (parseM zTab 40 (.ex 1) (startS (memT3 x y k))) = (⟨5, 0, 2 * (y : Int) + x - 2, ⟨k, 0, 0, 0, 0, true⟩, 0, 0, false⟩, 0) := hP.2.trans (by rw [e]; exact if_neg (by omega))
          clear e
          have E5 := Lib.hid (show cmpB .lss (y : Int) 2 = some true from congrArg some (decide_eq_true (by omega)))
          have E6 := Lib.hid (show cmpB .geq (x : Int) 2 = some true from congrArg some (decide_eq_true (by omega)))
          have E7 := Lib.hid (show cmpB .lss (2 * (y : Int) + x - 2 : Int) 0 = some false from congrArg some (decide_eq_false (by omega)))
          have M1 := Lib.hid (show IntKind.i64.wrap (2 * (y : Int)) = 2 * (y : Int) from IntWalk.i64_in _ (by omega))
          have M2 := Lib.hid (show IntKind.i64.wrap (2 * (y : Int) + x) = 2 * (y : Int) + x from IntWalk.i64_in _ (by omega))
          have M3 := Lib.hid (show IntKind.i64.wrap (2 * (y : Int) + x - 2) = 2 * (y : Int) + x - 2 from IntWalk.i64_in _ (by omega))
          clear e0 x4 y4 x2 y2
          go_upto_region 23 with (first
              | (go_at_call 9; refine (toksE_any hAr (hSt.own hR) (Nat.le_of_ble_eq_true rfl)).mono ?_; rintro e w' ⟨vt, rfl, hb, hTk⟩; replace hR := hR.grow hb; clear hb)
              | ((with_reducible apply wpList_built); exact rfl; exact rfl; exact bTab0; (simp only [cS, cZ]; exact rfl))
              | (go_at_call 12; (refine (operE_any (hT.own hR) (zTab_in _) hTk _ (hP.1)).mono ?_; rintro e w' ⟨rfl, hb⟩; replace hR := hR.grow hb; clear hb; rw [hP2]))
              | ((with_reducible apply q_ls hR); exact rfl; (with_reducible apply t_extract); (apply EvC.now; exact rfl); exact rfl; (simp only [cS, cZ]; exact rfl); clear hR; intro w hR)
              | ((with_reducible apply q_ls hR); exact rfl; (with_reducible apply t_cmp); (apply EvC.now; exact rfl); (apply EvC.now; exact rfl); (with_reducible first | exact E1.out | exact E2.out | exact E3.out | exact E4.out | exact E5.out | exact E6.out | exact E7.out); (simp only [cS, cZ]; exact rfl); clear hR; intro w hR)
              | ((with_reducible apply q_ls hR); exact rfl; (with_reducible apply t_numE); (apply EvC.now; exact rfl); (apply EvC.now; exact rfl); exact rfl; (with_reducible first | exact M1.out | exact M2.out | exact M3.out); (simp only [cS, cZ]; exact rfl); clear hR; intro w hR)
          
              | ((with_reducible apply wpList_box hR); exact rfl; exact rfl; clear hR; intro g w hR; simp only [cS, cZ])
              | ((with_reducible apply wpList_make hR zOpd); exact rfl; clear hR; intro g w hR; simp only [cS, cZ])
              | ((with_reducible apply q_ls hR); exact rfl; ((with_reducible first | apply t_one tIntV | apply t_one tStrE | apply t_part tOpd) <;> (first | (focus (repeat (first | (apply EvC.gv; exact rfl; (with_reducible first | exact Imp.refl _ | (apply Imp.left; exact Imp.refl _) | (apply Imp.right; exact Imp.refl _) | (apply Imp.left; apply Imp.left; exact Imp.refl _))) | (apply EvC.now; exact rfl) | (with_reducible first | apply EvAll.cons | exact EvAll.nil))); done) | exact rfl | exact ext_opd _ | (focus (repeat (first | apply List.Mem.head | apply List.Mem.tail | apply List.mem_append_right))))); (simp only [cS, cZ]; exact rfl); clear hR; intro w hR)
              | ((with_reducible apply wpList_put hR tOpd); exact rfl; exact rfl; exact rfl; (focus (repeat (first | apply List.Mem.head | apply List.Mem.tail | apply List.mem_append_right))); exact put_opd _ _; exact rfl; exact Nat.le_refl 12; exact one_opd _; (focus (repeat (first | apply Upd.head | apply Upd.tail))); clear hR; intro w hR))
          refine wp_region_tame hR [0, 1, 2, 3, 4, 5, 6, 7, 8, 9, 10, 11, 12, 13] rfl ?_
          repeat (refine wpT_step rfl ?_; first
              | ((with_reducible apply q_kn); exact rfl; (with_reducible apply t_call Tryd.call10); (first | (focus (repeat (first | (apply EvC.gv; exact rfl; (with_reducible first | exact Imp.refl _ | (apply Imp.left; exact Imp.refl _) | (apply Imp.right; exact Imp.refl _) | (apply Imp.left; apply Imp.left; exact Imp.refl _))) | (apply EvC.now; exact rfl) | (with_reducible first | apply EvAll.cons | exact EvAll.nil))); done) | exact rfl | exact ext_opd _ | (focus (repeat (first | apply List.Mem.head | apply List.Mem.tail | apply List.mem_append_right)))); (intro hcc w hC; exact tame_below (awake_any (hT.own hC)) hC); (simp only [cS, cZ]; exact rfl))
              | ((with_reducible apply q_kn); exact rfl; (with_reducible apply t_eql gOpd); (apply EvC.now; exact rfl); (apply EvC.now; exact rfl); exact eqO_self _; (simp only [cS, cZ]; exact rfl))
              | ((with_reducible apply q_kn); exact rfl; (with_reducible apply t_cmp (op := .eql)); (apply EvC.now; exact rfl); (apply EvC.now; exact rfl); exact rfl; (simp only [cS, cZ]; exact rfl))
              | ((with_reducible apply q_kn); exact rfl; (with_reducible apply t_built); exact rfl; (with_reducible first | exact bOpd0 | exact bValN _ _ | exact bOpdM _ _); (simp only [cS, cZ]; exact rfl))
              | ((with_reducible apply q_kn); exact rfl; (first | ((with_reducible first | apply t_move | apply t_assign | apply t_one tIntV | apply t_one tStrE | apply t_part tOpd) <;> (first | (focus (repeat (first | (apply EvC.gv; exact rfl; (with_reducible first | exact Imp.refl _ | (apply Imp.left; exact Imp.refl _) | (apply Imp.right; exact Imp.refl _) | (apply Imp.left; apply Imp.left; exact Imp.refl _))) | (apply EvC.now; exact rfl) | (with_reducible first | apply EvAll.cons | exact EvAll.nil))); done) | exact rfl | exact ext_opd _ | (focus (repeat (first | apply List.Mem.head | apply List.Mem.tail | apply List.mem_append_right))))) | ((with_reducible apply t_pick); (apply EvC.now; exact rfl); (apply EvC.now; exact rfl))); (simp only [cS, cZ]; exact rfl))
              | ((with_reducible apply wpT1_skipL); exact rfl; (simp only [cS, cZ]; exact rfl)))
          refine wpT_nil ?_
          clear hR; intro w hR
          go_wp2_with fail
          go_ret
          exact ⟨ret_bool (by kernel_rfl), (hZ.own hR).below⟩
        · have e : rmOf x y = -1 := by rw [e0, if_neg (by omega), if_neg (by omega)]
          have hP2 : opdR (parseM zTab 40 (.ex 1) (startS (memT3 x y k))) = (zeroOpd, 3) := hP.2.trans (by rw [e]; rfl)
          clear e
          have E5 := Lib.hid (show cmpB .lss (y : Int) 2 = some false from congrArg some (decide_eq_false (by omega)))
          clear e0 x4 y4 x2 y2
          go_upto_region 22 with (first
              | (go_at_call 9; refine (toksE_any hAr (hSt.own hR) (Nat.le_of_ble_eq_true rfl)).mono ?_; rintro e w' ⟨vt, rfl, hb, hTk⟩; replace hR := hR.grow hb; clear hb)
              | ((with_reducible apply wpList_built); exact rfl; exact rfl; exact bTab0; (simp only [cS, cZ]; exact rfl))
              | (go_at_call 12; (refine (operE_any (hT.own hR) (zTab_in _) hTk _ (hP.1)).mono ?_; rintro e w' ⟨rfl, hb⟩; replace hR := hR.grow hb; clear hb; rw [hP2]))
              | ((with_reducible apply q_ls hR); exact rfl; (with_reducible apply t_extract); (apply EvC.now; exact rfl); exact rfl; (simp only [cS, cZ]; exact rfl); clear hR; intro w hR)
              | ((with_reducible apply q_ls hR); exact rfl; (with_reducible apply t_cmp); (apply EvC.now; exact rfl); (apply EvC.now; exact rfl); (with_reducible first | exact E1.out | exact E2.out | exact E3.out | exact E4.out | exact E5.out | exact E6.out | exact E7.out); (simp only [cS, cZ]; exact rfl); clear hR; intro w hR)
              | ((with_reducible apply q_ls hR); exact rfl; (with_reducible apply t_numE); (apply EvC.now; exact rfl); (apply EvC.now; exact rfl); exact rfl; (with_reducible first | exact M1.out | exact M2.out | exact M3.out); (simp only [cS, cZ]; exact rfl); clear hR; intro w hR)
          
              | ((with_reducible apply wpList_box hR); exact rfl; exact rfl; clear hR; intro g w hR; simp only [cS, cZ])
              | ((with_reducible apply wpList_make hR zOpd); exact rfl; clear hR; intro g w hR; simp only [cS, cZ])
              | ((with_reducible apply q_ls hR); exact rfl; ((with_reducible first | apply t_one tIntV | apply t_one tStrE | apply t_part tOpd) <;> (first | (focus (repeat (first | (apply EvC.gv; exact rfl; (with_reducible first | exact Imp.refl _ | (apply Imp.left; exact Imp.refl _) | (apply Imp.right; exact Imp.refl _) | (apply Imp.left; apply Imp.left; exact Imp.refl _))) | (apply EvC.now; exact rfl) | (with_reducible first | apply EvAll.cons | exact EvAll.nil))); done) | exact rfl | exact ext_opd _ | (focus (repeat (first | apply List.Mem.head | apply List.Mem.tail | apply List.mem_append_right))))); (simp only [cS, cZ]; exact rfl); clear hR; intro w hR)
              | ((with_reducible apply wpList_put hR tOpd); exact rfl; exact rfl; exact rfl; (focus (repeat (first | apply List.Mem.head | apply List.Mem.tail | apply List.mem_append_right))); exact put_opd _ _; exact rfl; exact Nat.le_refl 12; exact one_opd _; (focus (repeat (first | apply Upd.head | apply Upd.tail))); clear hR; intro w hR))
          refine wp_region_tame hR [0, 1, 2, 3, 4, 5, 6, 7, 8, 9, 10] rfl ?_
          repeat (refine wpT_step rfl ?_; first
              | ((with_reducible apply q_kn); exact rfl; (with_reducible apply t_call Tryd.call10); (first | (focus (repeat (first | (apply EvC.gv; exact rfl; (with_reducible first | exact Imp.refl _ | (apply Imp.left; exact Imp.refl _) | (apply Imp.right; exact Imp.refl _) | (apply Imp.left; apply Imp.left; exact Imp.refl _))) | (apply EvC.now; exact rfl) | (with_reducible first | apply EvAll.cons | exact EvAll.nil))); done) | exact rfl | exact ext_opd _ | (focus (repeat (first | apply List.Mem.head | apply List.Mem.tail | apply List.mem_append_right)))); (intro hcc w hC; exact tame_below (awake_any (hT.own hC)) hC); (simp only [cS, cZ]; exact rfl))
              | ((with_reducible apply q_kn); exact rfl; (with_reducible apply t_eql gOpd); (apply EvC.now; exact rfl); (apply EvC.now; exact rfl); exact eqO_self _; (simp only [cS, cZ]; exact rfl))
              | ((with_reducible apply q_kn); exact rfl; (with_reducible apply t_cmp (op := .eql)); (apply EvC.now; exact rfl); (apply EvC.now; exact rfl); exact rfl; (simp only [cS, cZ]; exact rfl))
              | ((with_reducible apply q_kn); exact rfl; (with_reducible apply t_built); exact rfl; (with_reducible first | exact bOpd0 | exact bValN _ _ | exact bOpdM _ _); (simp only [cS, cZ]; exact rfl))
              | ((with_reducible apply q_kn); exact rfl; (first | ((with_reducible first | apply t_move | apply t_assign | apply t_one tIntV | apply t_one tStrE | apply t_part tOpd) <;> (first | (focus (repeat (first | (apply EvC.gv; exact rfl; (with_reducible first | exact Imp.refl _ | (apply Imp.left; exact Imp.refl _) | (apply Imp.right; exact Imp.refl _) | (apply Imp.left; apply Imp.left; exact Imp.refl _))) | (apply EvC.now; exact rfl) | (with_reducible first | apply EvAll.cons | exact EvAll.nil))); done) | exact rfl | exact ext_opd _ | (focus (repeat (first | apply List.Mem.head | apply List.Mem.tail | apply List.mem_append_right))))) | ((with_reducible apply t_pick); (apply EvC.now; exact rfl); (apply EvC.now; exact rfl))); (simp only [cS, cZ]; exact rfl))
              | ((with_reducible apply wpT1_skipL); exact rfl; (simp only [cS, cZ]; exact rfl)))
          refine wpT_nil ?_
          clear hR; intro w hR
          go_wp2_with fail
          go_ret
          exact ⟨ret_bool (by kernel_rfl), (hZ.own hR).below⟩
    · have HF1 := Lib.hid (show cmpB .eql (a2 % 2) 1 = some false from congrArg some (decide_eq_false hf))
      go_upto_region 7 with (first
    | ((with_reducible apply q_ls hR); exact rfl; (with_reducible apply t_six Tryd.underlying23 iStrE); (apply EvC.now; exact rfl); (apply EvC.now; exact rfl); exact HXB.out; (simp only [cS, cZ]; exact rfl); clear hR; intro w hR)
    | ((with_reducible apply q_ls hR); exact rfl; (with_reducible apply t_oldOne tStrE); (apply EvC.now; exact rfl); (exact HXC.out); exact rfl; (simp only [cS, cZ]; exact rfl); clear hR; intro w hR)
    | ((with_reducible apply wpList_buildS hR); exact rfl; exact rfl; (exact bStr3 _ _ _); clear hR; intro gs w hR; simp only [cS, cZ])
    | ((with_reducible apply q_ls hR); exact rfl; (with_reducible apply t_shrE (k := 1)); (apply EvC.now; exact rfl); (apply EvC.now; exact rfl); exact rfl; (decide); exact HSH.out; (simp only [cS, cZ]; exact rfl); clear hR; intro w hR)
    | ((with_reducible apply q_ls hR); exact rfl; (with_reducible apply t_numE (op := .and)); (apply EvC.now; exact rfl); (apply EvC.now; exact rfl); exact rfl; (with_reducible first | exact HK.out | exact HF.out); (simp only [cS, cZ]; exact rfl); clear hR; intro w hR)
    | ((with_reducible apply q_ls hR); exact rfl; (with_reducible apply t_cmp); (apply EvC.now; exact rfl); (apply EvC.now; exact rfl); (with_reducible first | exact HF1.out | exact HY5.out); (simp only [cS, cZ]; exact rfl); clear hR; intro w hR)
    | (go_at_call 11; refine (numL_any (n := k) HK100.out _).mono ?_; rintro e w' ⟨rfl, hb⟩; replace hR := hR.grow hb; clear hb)
    | ((with_reducible apply q_ls hR); exact rfl; (with_reducible apply t_catE); (exact lit_now l35); (apply EvC.now; exact rfl); exact HCT.out; exact rfl; (simp only [cS, cZ]; exact rfl); clear hR; intro w hR)
    | ((with_reducible apply wpList_buildS hR); exact rfl; exact rfl; (exact bStr3 _ _ _); clear hR; intro gs w hR; simp only [cS, cZ])
    | ((with_reducible apply wpList_appN hR tStrsK); exact rfl; exact rfl; exact rfl; exact hS; (exact Les.tail Les.head); (focus (repeat (first | apply List.Mem.head | apply List.Mem.tail | apply List.mem_append_right))); (exact Part.all _); (exact rfl); (exact rfl); (decide); clear hR hS; intro s2 v2 w hR hS; simp only [cS, cZ]))
      refine wp_region_some hR [] (by (focus (repeat (first | exact List.Sublist.slnil | exact List.nil_sublist _ | exact List.Sublist.refl _ | apply List.Sublist.cons_cons | apply List.Sublist.cons)))) [0, 1, 2, 3, 4, 5, 6, 7] 2 (by kernel_rfl) (by kernel_rfl) (by kernel_rfl) rfl ?_
      clear hR; intro hR
      repeat (refine wpT_step rfl ?_; first
          | ((first | (with_reducible apply q_pl) | ((with_reducible apply q_gd); (first | (apply GdBy.gt; exact rfl; exact rfl) | (apply GdBy.gf; exact rfl; exact rfl) | (apply GdBy.t; exact rfl; exact rfl) | (apply GdBy.f; exact rfl; exact rfl)))); (with_reducible apply t_six Tryd.underlying23 iStrE); (apply EvC.now; exact rfl); (apply EvC.now; exact rfl); (with_reducible first | exact HXB.out | exact HYB.out); (simp only [cS, cZ]; exact rfl))
          | ((first | (with_reducible apply q_pl) | ((with_reducible apply q_gd); (first | (apply GdBy.gt; exact rfl; exact rfl) | (apply GdBy.gf; exact rfl; exact rfl) | (apply GdBy.t; exact rfl; exact rfl) | (apply GdBy.f; exact rfl; exact rfl)))); (with_reducible apply t_oldOne tStrE); (apply EvC.now; exact rfl); (with_reducible first | exact HXC.out | exact HYC.out); exact rfl; (simp only [cS, cZ]; exact rfl))
          | ((first | (with_reducible apply q_pl) | ((with_reducible apply q_gd); (first | (apply GdBy.gt; exact rfl; exact rfl) | (apply GdBy.gf; exact rfl; exact rfl) | (apply GdBy.t; exact rfl; exact rfl) | (apply GdBy.f; exact rfl; exact rfl)))); (first | ((with_reducible first | apply t_move | apply t_assign | apply t_and | apply t_or | apply t_cmp | apply t_not | apply t_one tIntV | apply t_one tStrE | apply t_part tOpd) <;> (first | (focus (repeat (first | (apply EvC.gv; exact rfl; (with_reducible first | exact Imp.refl _ | (apply Imp.left; exact Imp.refl _) | (apply Imp.right; exact Imp.refl _) | (apply Imp.left; apply Imp.left; exact Imp.refl _))) | (apply EvC.now; exact rfl) | (with_reducible first | apply EvAll.cons | exact EvAll.nil))); done) | exact rfl | exact ext_opd _ | (focus (repeat (first | apply List.Mem.head | apply List.Mem.tail | apply List.mem_append_right)))))); (simp only [cS, cZ]; exact rfl))
          | ((with_reducible apply q_gd); (first | (apply GdBy.gt; exact rfl; exact rfl) | (apply GdBy.gf; exact rfl; exact rfl) | (apply GdBy.t; exact rfl; exact rfl) | (apply GdBy.f; exact rfl; exact rfl)); ((with_reducible apply t_num) <;> (first | (focus (repeat (first | (apply EvC.gv; exact rfl; (with_reducible first | exact Imp.refl _ | (apply Imp.left; exact Imp.refl _) | (apply Imp.right; exact Imp.refl _) | (apply Imp.left; apply Imp.left; exact Imp.refl _))) | (apply EvC.now; exact rfl) | (with_reducible first | apply EvAll.cons | exact EvAll.nil))); done) | exact rfl | exact ext_opd _ | (focus (repeat (first | apply List.Mem.head | apply List.Mem.tail | apply List.mem_append_right))))); (simp only [cS, cZ]; exact rfl))
          | ((with_reducible apply wpT1_gpure); (first | (apply GdBy.gt; exact rfl; exact rfl) | (apply GdBy.gf; exact rfl; exact rfl) | (apply GdBy.t; exact rfl; exact rfl) | (apply GdBy.f; exact rfl; exact rfl)); intro K hK; go_simp; refine hK _ ?_; clear hK K; simp only [cS, cZ])
          | ((with_reducible apply wpT1_pure); exact rfl; intro K hK; go_simp; refine hK _ ?_; clear hK K; simp only [cS, cZ]))
      refine wpT_nil ?_
      refine wpG_buildS hR (i := 8) (by kernel_rfl) rfl rfl rfl (bStr5 _ _ _ _ _) (by (focus (repeat (first | exact List.Sublist.slnil | exact List.nil_sublist _ | exact List.Sublist.refl _ | apply List.Sublist.cons_cons | apply List.Sublist.cons)))) ?_
      clear hR; intro gs w hR
      simp only [cS, cZ]
      refine wpG_slot hR (i := 9) (by kernel_rfl) rfl rfl (by (simp only [cS, cZ]; exact rfl)) ?_
      clear hR; intro w hR
      refine wpG_end hR (by kernel_rfl) ?_
      clear hR; intro w hR
      have hS : Sl 9 1 [(gs, _, 9)] (.slice (some ⟨gs, 0, none⟩) 5 5) 5 (([[91], sx, [43], sy, [93]] : List (List Int)).flatMap cellT) := sl_row rfl rfl (by decide)
      go_upto_region 12 with (first
    | ((with_reducible apply q_ls hR); exact rfl; (with_reducible apply t_shrE (k := 1)); (apply EvC.now; exact rfl); (apply EvC.now; exact rfl); exact rfl; (decide); exact HSH.out; (simp only [cS, cZ]; exact rfl); clear hR; intro w hR)
    | ((with_reducible apply q_ls hR); exact rfl; (with_reducible apply t_numE (op := .and)); (apply EvC.now; exact rfl); (apply EvC.now; exact rfl); exact rfl; (with_reducible first | exact HK.out | exact HF.out); (simp only [cS, cZ]; exact rfl); clear hR; intro w hR)
    | ((with_reducible apply q_ls hR); exact rfl; (with_reducible apply t_cmp); (apply EvC.now; exact rfl); (apply EvC.now; exact rfl); (with_reducible first | exact HF1.out | exact HY5.out); (simp only [cS, cZ]; exact rfl); clear hR; intro w hR)
    | (go_at_call 11; refine (numL_any (n := k) HK100.out _).mono ?_; rintro e w' ⟨rfl, hb⟩; replace hR := hR.grow hb; clear hb)
    | ((with_reducible apply q_ls hR); exact rfl; (with_reducible apply t_catE); (exact lit_now l35); (apply EvC.now; exact rfl); exact HCT.out; exact rfl; (simp only [cS, cZ]; exact rfl); clear hR; intro w hR)
    | ((with_reducible apply wpList_buildS hR); exact rfl; exact rfl; (exact bStr3 _ _ _); clear hR; intro gs w hR; simp only [cS, cZ])
    | ((with_reducible apply wpList_appN hR tStrsK); exact rfl; exact rfl; exact rfl; exact hS; (exact Les.tail Les.head); (focus (repeat (first | apply List.Mem.head | apply List.Mem.tail | apply List.mem_append_right))); (exact Part.all _); (exact rfl); (exact rfl); (decide); clear hR hS; intro s2 v2 w hR hS; simp only [cS, cZ]))
      have hAr : ToksAre ([[91], sx, [43], sy, [93]] ++ kW k) (memT2 x y k) := by
        unfold memT2; rw [hsx.ge, hsy.ge]
        exact are_app (.cons (.sign (by decide) (by decide) (by decide)) (.cons hsx.tok (.cons (.sign (by decide) (by decide) (by decide)) (.cons hsy.tok (.cons (.sign (by decide) (by decide) (by decide)) .nil))))) (kW_are hk64)
      have hP := chk_of (chk_2 hx5 hy5 hk64)
      clear HYC HYB HY5 HF1 hf hsx hsy
      have hSt : Strs w v2 ([[91], sx, [43], sy, [93]] ++ kW k) := (hS.cast (ys := ([[91], sx, [43], sy, [93]] ++ kW k).flatMap cellT) rfl).strs hR (fun r hr => List.mem_append_left _ hr) hAr.okS
      clear hS HXC HXB HSH HK HF HCT
      replace hT := hT.own hR
      have hZ2 := (hZ).own hR
      have hR2 := hR.fresh
      clear hR
      try clear hZ
      have hZ := hZ2
      have hR := hR2
      clear hZ2 hR2
      by_cases x4 : x = 4
      · have e : rmOf x y = -1 := if_pos (.inl x4)
        have hP2 : opdR (parseM zTab 40 (.ex 1) (startS (memT2 x y k))) = (zeroOpd, 3) := hP.2.trans (by rw [e]; rfl)
        clear e
        have E1 := Lib.hid (show cmpB .eql (x : Int) 4 = some true from congrArg some (decide_eq_true (by omega)))
        clear x4
        go_upto_region 22 with (first
            | (go_at_call 9; refine (toksE_any hAr (hSt.own hR) (Nat.le_of_ble_eq_true rfl)).mono ?_; rintro e w' ⟨vt, rfl, hb, hTk⟩; replace hR := hR.grow hb; clear hb)
            | ((with_reducible apply wpList_built); exact rfl; exact rfl; exact bTab0; (simp only [cS, cZ]; exact rfl))
            | (go_at_call 12; (refine (operE_any (hT.own hR) (zTab_in _) hTk _ (hP.1)).mono ?_; rintro e w' ⟨rfl, hb⟩; replace hR := hR.grow hb; clear hb; rw [hP2]))
            | ((with_reducible apply q_ls hR); exact rfl; (with_reducible apply t_extract); (apply EvC.now; exact rfl); exact rfl; (simp only [cS, cZ]; exact rfl); clear hR; intro w hR)
            | ((with_reducible apply q_ls hR); exact rfl; (with_reducible apply t_cmp); (apply EvC.now; exact rfl); (apply EvC.now; exact rfl); (with_reducible first | exact E1.out | exact E2.out | exact E3.out | exact E4.out | exact E5.out | exact E6.out | exact E7.out); (simp only [cS, cZ]; exact rfl); clear hR; intro w hR)
            | ((with_reducible apply q_ls hR); exact rfl; (with_reducible apply t_numE); (apply EvC.now; exact rfl); (apply EvC.now; exact rfl); exact rfl; (with_reducible first | exact M1.out | exact M2.out | exact M3.out); (simp only [cS, cZ]; exact rfl); clear hR; intro w hR)
        
            | ((with_reducible apply wpList_box hR); exact rfl; exact rfl; clear hR; intro g w hR; simp only [cS, cZ])
            | ((with_reducible apply wpList_make hR zOpd); exact rfl; clear hR; intro g w hR; simp only [cS, cZ])
            | ((with_reducible apply q_ls hR); exact rfl; ((with_reducible first | apply t_one tIntV | apply t_one tStrE | apply t_part tOpd) <;> (first | (focus (repeat (first | (apply EvC.gv; exact rfl; (with_reducible first | exact Imp.refl _ | (apply Imp.left; exact Imp.refl _) | (apply Imp.right; exact Imp.refl _) | (apply Imp.left; apply Imp.left; exact Imp.refl _))) | (apply EvC.now; exact rfl) | (with_reducible first | apply EvAll.cons | exact EvAll.nil))); done) | exact rfl | exact ext_opd _ | (focus (repeat (first | apply List.Mem.head | apply List.Mem.tail | apply List.mem_append_right))))); (simp only [cS, cZ]; exact rfl); clear hR; intro w hR)
            | ((with_reducible apply wpList_put hR tOpd); exact rfl; exact rfl; exact rfl; (focus (repeat (first | apply List.Mem.head | apply List.Mem.tail | apply List.mem_append_right))); exact put_opd _ _; exact rfl; exact Nat.le_refl 12; exact one_opd _; (focus (repeat (first | apply Upd.head | apply Upd.tail))); clear hR; intro w hR))
        refine wp_region_tame hR [0, 1, 2, 3, 4, 5, 6, 7, 8, 9, 10] rfl ?_
        repeat (refine wpT_step rfl ?_; first
            | ((with_reducible apply q_kn); exact rfl; (with_reducible apply t_call Tryd.call10); (first | (focus (repeat (first | (apply EvC.gv; exact rfl; (with_reducible first | exact Imp.refl _ | (apply Imp.left; exact Imp.refl _) | (apply Imp.right; exact Imp.refl _) | (apply Imp.left; apply Imp.left; exact Imp.refl _))) | (apply EvC.now; exact rfl) | (with_reducible first | apply EvAll.cons | exact EvAll.nil))); done) | exact rfl | exact ext_opd _ | (focus (repeat (first | apply List.Mem.head | apply List.Mem.tail | apply List.mem_append_right)))); (intro hcc w hC; exact tame_below (awake_any (hT.own hC)) hC); (simp only [cS, cZ]; exact rfl))
            | ((with_reducible apply q_kn); exact rfl; (with_reducible apply t_eql gOpd); (apply EvC.now; exact rfl); (apply EvC.now; exact rfl); exact eqO_self _; (simp only [cS, cZ]; exact rfl))
            | ((with_reducible apply q_kn); exact rfl; (with_reducible apply t_cmp (op := .eql)); (apply EvC.now; exact rfl); (apply EvC.now; exact rfl); exact rfl; (simp only [cS, cZ]; exact rfl))
            | ((with_reducible apply q_kn); exact rfl; (with_reducible apply t_built); exact rfl; (with_reducible first | exact bOpd0 | exact bValN _ _ | exact bOpdM _ _); (simp only [cS, cZ]; exact rfl))
            | ((with_reducible apply q_kn); exact rfl; (first | ((with_reducible first | apply t_move | apply t_assign | apply t_one tIntV | apply t_one tStrE | apply t_part tOpd) <;> (first | (focus (repeat (first | (apply EvC.gv; exact rfl; (with_reducible first | exact Imp.refl _ | (apply Imp.left; exact Imp.refl _) | (apply Imp.right; exact Imp.refl _) | (apply Imp.left; apply Imp.left; exact Imp.refl _))) | (apply EvC.now; exact rfl) | (with_reducible first | apply EvAll.cons | exact EvAll.nil))); done) | exact rfl | exact ext_opd _ | (focus (repeat (first | apply List.Mem.head | apply List.Mem.tail | apply List.mem_append_right))))) | ((with_reducible apply t_pick); (apply EvC.now; exact rfl); (apply EvC.now; exact rfl))); (simp only [cS, cZ]; exact rfl))
            | ((with_reducible apply wpT1_skipL); exact rfl; (simp only [cS, cZ]; exact rfl)))
        refine wpT_nil ?_
        clear hR; intro w hR
        go_wp2_with fail
        go_ret
        exact ⟨ret_bool (by kernel_rfl), (hZ.own hR).below⟩
      by_cases y4 : y = 4
      · have e : rmOf x y = -1 := if_pos (.inr y4)
        have hP2 : opdR (parseM zTab 40 (.ex 1) (startS (memT2 x y k))) = (zeroOpd, 3) := hP.2.trans (by rw [e]; rfl)
        clear e
        have E1 := Lib.hid (show cmpB .eql (x : Int) 4 = some false from congrArg some (decide_eq_false (by omega)))
        have E2 := Lib.hid (show cmpB .eql (y : Int) 4 = some true from congrArg some (decide_eq_true (by omega)))
        clear x4 y4
        go_upto_region 22 with (first
            | (go_at_call 9; refine (toksE_any hAr (hSt.own hR) (Nat.le_of_ble_eq_true rfl)).mono ?_; rintro e w' ⟨vt, rfl, hb, hTk⟩; replace hR := hR.grow hb; clear hb)
            | ((with_reducible apply wpList_built); exact rfl; exact rfl; exact bTab0; (simp only [cS, cZ]; exact rfl))
            | (go_at_call 12; (refine (operE_any (hT.own hR) (zTab_in _) hTk _ (hP.1)).mono ?_; rintro e w' ⟨rfl, hb⟩; replace hR := hR.grow hb; clear hb; rw [hP2]))
            | ((with_reducible apply q_ls hR); exact rfl; (with_reducible apply t_extract); (apply EvC.now; exact rfl); exact rfl; (simp only [cS, cZ]; exact rfl); clear hR; intro w hR)
            | ((with_reducible apply q_ls hR); exact rfl; (with_reducible apply t_cmp); (apply EvC.now; exact rfl); (apply EvC.now; exact rfl); (with_reducible first | exact E1.out | exact E2.out | exact E3.out | exact E4.out | exact E5.out | exact E6.out | exact E7.out); (simp only [cS, cZ]; exact rfl); clear hR; intro w hR)
            | ((with_reducible apply q_ls hR); exact rfl; (with_reducible apply t_numE); (apply EvC.now; exact rfl); (apply EvC.now; exact rfl); exact rfl; (with_reducible first | exact M1.out | exact M2.out | exact M3.out); (simp only [cS, cZ]; exact rfl); clear hR; intro w hR)
        
            | ((with_reducible apply wpList_box hR); exact rfl; exact rfl; clear hR; intro g w hR; simp only [cS, cZ])
            | ((with_reducible apply wpList_make hR zOpd); exact rfl; clear hR; intro g w hR; simp only [cS, cZ])
            | ((with_reducible apply q_ls hR); exact rfl; ((with_reducible first | apply t_one tIntV | apply t_one tStrE | apply t_part tOpd) <;> (first | (focus (repeat (first | (apply EvC.gv; exact rfl; (with_reducible first | exact Imp.refl _ | (apply Imp.left; exact Imp.refl _) | (apply Imp.right; exact Imp.refl _) | (apply Imp.left; apply Imp.left; exact Imp.refl _))) | (apply EvC.now; exact rfl) | (with_reducible first | apply EvAll.cons | exact EvAll.nil))); done) | exact rfl | exact ext_opd _ | (focus (repeat (first | apply List.Mem.head | apply List.Mem.tail | apply List.mem_append_right))))); (simp only [cS, cZ]; exact rfl); clear hR; intro w hR)
            | ((with_reducible apply wpList_put hR tOpd); exact rfl; exact rfl; exact rfl; (focus (repeat (first | apply List.Mem.head | apply List.Mem.tail | apply List.mem_append_right))); exact put_opd _ _; exact rfl; exact Nat.le_refl 12; exact one_opd _; (focus (repeat (first | apply Upd.head | apply Upd.tail))); clear hR; intro w hR))
        refine wp_region_tame hR [0, 1, 2, 3, 4, 5, 6, 7, 8, 9, 10] rfl ?_
        repeat (refine wpT_step rfl ?_; first
            | ((with_reducible apply q_kn); exact rfl; (with_reducible apply t_call Tryd.call10); (first | (focus (repeat (first | (apply EvC.gv; exact rfl; (with_reducible first | exact Imp.refl _ | (apply Imp.left; exact Imp.refl _) | (apply Imp.right; exact Imp.refl _) | (apply Imp.left; apply Imp.left; exact Imp.refl _))) | (apply EvC.now; exact rfl) | (with_reducible first | apply EvAll.cons | exact EvAll.nil))); done) | exact rfl | exact ext_opd _ | (focus (repeat (first | apply List.Mem.head | apply List.Mem.tail | apply List.mem_append_right)))); (intro hcc w hC; exact tame_below (awake_any (hT.own hC)) hC); (simp only [cS, cZ]; exact rfl))
            | ((with_reducible apply q_kn); exact rfl; (with_reducible apply t_eql gOpd); (apply EvC.now; exact rfl); (apply EvC.now; exact rfl); exact eqO_self _; (simp only [cS, cZ]; exact rfl))
            | ((with_reducible apply q_kn); exact rfl; (with_reducible apply t_cmp (op := .eql)); (apply EvC.now; exact rfl); (apply EvC.now; exact rfl); exact rfl; (simp only [cS, cZ]; exact rfl))
            | ((with_reducible apply q_kn); exact rfl; (with_reducible apply t_built); exact rfl; (with_reducible first | exact bOpd0 | exact bValN _ _ | exact bOpdM _ _); (simp only [cS, cZ]; exact rfl))
            | ((with_reducible apply q_kn); exact rfl; (first | ((with_reducible first | apply t_move | apply t_assign | apply t_one tIntV | apply t_one tStrE | apply t_part tOpd) <;> (first | (focus (repeat (first | (apply EvC.gv; exact rfl; (with_reducible first | exact Imp.refl _ | (apply Imp.left; exact Imp.refl _) | (apply Imp.right; exact Imp.refl _) | (apply Imp.left; apply Imp.left; exact Imp.refl _))) | (apply EvC.now; exact rfl) | (with_reducible first | apply EvAll.cons | exact EvAll.nil))); done) | exact rfl | exact ext_opd _ | (focus (repeat (first | apply List.Mem.head | apply List.Mem.tail | apply List.mem_append_right))))) | ((with_reducible apply t_pick); (apply EvC.now; exact rfl); (apply EvC.now; exact rfl))); (simp only [cS, cZ]; exact rfl))
            | ((with_reducible apply wpT1_skipL); exact rfl; (simp only [cS, cZ]; exact rfl)))
        refine wpT_nil ?_
        clear hR; intro w hR
        go_wp2_with fail
        go_ret
        exact ⟨ret_bool (by kernel_rfl), (hZ.own hR).below⟩
      have e0 : rmOf x y = if x < 2 ∧ 2 ≤ y then 2 * (x : Int) + y - 2 else if y < 2 ∧ 2 ≤ x then 2 * (y : Int) + x - 2 else -1 := by
        unfold rmOf; rw [if_neg (by omega), if_neg (by omega)]
      have E1 := Lib.hid (show cmpB .eql (x : Int) 4 = some false from congrArg some (decide_eq_false (by omega)))
      have E2 := Lib.hid (show cmpB .eql (y : Int) 4 = some false from congrArg some (decide_eq_false (by omega)))
      have E3 := Lib.hid (show cmpB .lss (y : Int) 0 = some false from congrArg some (decide_eq_false (by omega)))
      by_cases x2 : x < 2
      · have E4 := Lib.hid (show cmpB .lss (x : Int) 2 = some true from congrArg some (decide_eq_true (by omega)))
        by_cases y2 : y < 2
        · have e : rmOf x y = -1 := by rw [e0, if_neg (by omega), if_neg (by omega)]
          have hP2 : opdR (parseM zTab 40 (.ex 1) (startS (memT2 x y k))) = (zeroOpd, 3) := hP.2.trans (by rw [e]; rfl)
          clear e
          have E5 := Lib.hid (show cmpB .geq (y : Int) 2 = some false from congrArg some (decide_eq_false (by omega)))
          have E6 := Lib.hid (show cmpB .lss (y : Int) 2 = some true from congrArg some (decide_eq_true (by omega)))
          have E7 := Lib.hid (show cmpB .geq (x : Int) 2 = some false from congrArg some (decide_eq_false (by omega)))
          clear e0 x4 y4 x2 y2
          go_upto_region 22 with (first
              | (go_at_call 9; refine (toksE_any hAr (hSt.own hR) (Nat.le_of_ble_eq_true rfl)).mono ?_; rintro e w' ⟨vt, rfl, hb, hTk⟩; replace hR := hR.grow hb; clear hb)
              | ((with_reducible apply wpList_built); exact rfl; exact rfl; exact bTab0; (simp only [cS, cZ]; exact rfl))
              | (go_at_call 12; (refine (operE_any (hT.own hR) (zTab_in _) hTk _ (hP.1)).mono ?_; rintro e w' ⟨rfl, hb⟩; replace hR := hR.grow hb; clear hb; rw [hP2]))
              | ((with_reducible apply q_ls hR); exact rfl; (with_reducible apply t_extract); (apply EvC.now; exact rfl); exact rfl; (simp only [cS, cZ]; exact rfl); clear hR; intro w hR)
              | ((with_reducible apply q_ls hR); exact rfl; (with_reducible apply t_cmp); (apply EvC.now; exact rfl); (apply EvC.now; exact rfl); (with_reducible first | exact E1.out | exact E2.out | exact E3.out | exact E4.out | exact E5.out | exact E6.out | exact E7.out); (simp only [cS, cZ]; exact rfl); clear hR; intro w hR)
              | ((with_reducible apply q_ls hR); exact rfl; (with_reducible apply t_numE); (apply EvC.now; exact rfl); (apply EvC.now; exact rfl); exact rfl; (with_reducible first | exact M1.out | exact M2.out | exact M3.out); (simp only [cS, cZ]; exact rfl); clear hR; intro w hR)
          
              | ((with_reducible apply wpList_box hR); exact rfl; exact rfl; clear hR; intro g w hR; simp only [cS, cZ])
              | ((with_reducible apply wpList_make hR zOpd); exact rfl; clear hR; intro g w hR; simp only [cS, cZ])
              | ((with_reducible apply q_ls hR); exact rfl; ((with_reducible first | apply t_one tIntV | apply t_one tStrE | apply t_part tOpd) <;> (first | (focus (repeat (first | (apply EvC.gv; exact rfl; (with_reducible first | exact Imp.refl _ | (apply Imp.left; exact Imp.refl _) | (apply Imp.right; exact Imp.refl _) | (apply Imp.left; apply Imp.left; exact Imp.refl _))) | (apply EvC.now; exact rfl) | (with_reducible first | apply EvAll.cons | exact EvAll.nil))); done) | exact rfl | exact ext_opd _ | (focus (repeat (first | apply List.Mem.head | apply List.Mem.tail | apply List.mem_append_right))))); (simp only [cS, cZ]; exact rfl); clear hR; intro w hR)
              | ((with_reducible apply wpList_put hR tOpd); exact rfl; exact rfl; exact rfl; (focus (repeat (first | apply List.Mem.head | apply List.Mem.tail | apply List.mem_append_right))); exact put_opd _ _; exact rfl; exact Nat.le_refl 12; exact one_opd _; (focus (repeat (first | apply Upd.head | apply Upd.tail))); clear hR; intro w hR))
          refine wp_region_tame hR [0, 1, 2, 3, 4, 5, 6, 7, 8, 9, 10] rfl ?_
          repeat (refine wpT_step rfl ?_; first
              | ((with_reducible apply q_kn); exact rfl; (with_reducible apply t_call Tryd.call10); (first | (focus (repeat (first | (apply EvC.gv; exact rfl; (with_reducible first | exact Imp.refl _ | (apply Imp.left; exact Imp.refl _) | (apply Imp.right; exact Imp.refl _) | (apply Imp.left; apply Imp.left; exact Imp.refl _))) | (apply EvC.now; exact rfl) | (with_reducible first | apply EvAll.cons | exact EvAll.nil))); done) | exact rfl | exact ext_opd _ | (focus (repeat (first | apply List.Mem.head | apply List.Mem.tail | apply List.mem_append_right)))); (intro hcc w hC; exact tame_below (awake_any (hT.own hC)) hC); (simp only [cS, cZ]; exact rfl))
              | ((with_reducible apply q_kn); exact rfl; (with_reducible apply t_eql gOpd); (apply EvC.now; exact rfl); (apply EvC.now; exact rfl); exact eqO_self _; (simp only [cS, cZ]; exact rfl))
              | ((with_reducible apply q_kn); exact rfl; (with_reducible apply t_cmp (op := .eql)); (apply EvC.now; exact rfl); (apply EvC.now; exact rfl); exact rfl; (simp only [cS, cZ]; exact rfl))
              | ((with_reducible apply q_kn); exact rfl; (with_reducible apply t_built); exact rfl; (with_reducible first | exact bOpd0 | exact bValN _ _ | exact bOpdM _ _); (simp only [cS, cZ]; exact rfl))
              | ((with_reducible apply q_kn); exact rfl; (first | ((with_reducible first | apply t_move | apply t_assign | apply t_one tIntV | apply t_one tStrE | apply t_part tOpd) <;> (first | (focus (repeat (first | (apply EvC.gv; exact rfl; (with_reducible first | exact Imp.refl _ | (apply Imp.left; exact Imp.refl _) | (apply Imp.right; exact Imp.refl _) | (apply Imp.left; apply Imp.left; exact Imp.refl _))) | (apply EvC.now; exact rfl) | (with_reducible first | apply EvAll.cons | exact EvAll.nil))); done) | exact rfl | exact ext_opd _ | (focus (repeat (first | apply List.Mem.head | apply List.Mem.tail | apply List.mem_append_right))))) | ((with_reducible apply t_pick); (apply EvC.now; exact rfl); (apply EvC.now; exact rfl))); (simp only [cS, cZ]; exact rfl))
              | ((with_reducible apply wpT1_skipL); exact rfl; (simp only [cS, cZ]; exact rfl)))
          refine wpT_nil ?_
          clear hR; intro w hR
          go_wp2_with fail
          go_ret
          exact ⟨ret_bool (by kernel_rfl), (hZ.own hR).below⟩
        · have e : rmOf x y = 2 * (x : Int) + y - 2 := by rw [e0, if_pos (by omega)]
          have hP2 : opdR (parseM zTab 40 (.ex 1) (startS (memT2 x y k))) = (⟨5, 0, 2 * (x : Int) + y - 2, ⟨k, 0, 0, 0, 0, true⟩, 0, 0, false⟩, 0) := hP.2.trans (by rw [e]; exact if_neg (by omega))
          clear e
          have E5 := Lib.hid (show cmpB .geq (y : Int) 2 = some true from congrArg some (decide_eq_true (by omega)))
          have E6 := Lib.hid (show cmpB .lss (2 * (x : Int) + y - 2 : Int) 0 = some false from congrArg some (decide_eq_false (by omega)))
          have M1 := Lib.hid (show IntKind.i64.wrap (2 * (x : Int)) = 2 * (x : Int) from IntWalk.i64_in _ (by omega))
          have M2 := Lib.hid (show IntKind.i64.wrap (2 * (x : Int) + y) = 2 * (x : Int) + y from IntWalk.i64_in _ (by omega))
          have M3 := Lib.hid (show IntKind.i64.wrap (2 * (x : Int) + y - 2) = 2 * (x : Int) + y - 2 from IntWalk.i64_in _ (by omega))
          clear e0 x4 y4 x2 y2
          go_upto_region 23 with (first
              | (go_at_call 9; refine (toksE_any hAr (hSt.own hR) (Nat.le_of_ble_eq_true rfl)).mono ?_; rintro e w' ⟨vt, rfl, hb, hTk⟩; replace hR := hR.grow hb; clear hb)
              | ((with_reducible apply wpList_built); exact rfl; exact rfl; exact bTab0; (simp only [cS, cZ]; exact rfl))
              | (go_at_call 12; (refine (operE_any (hT.own hR) (zTab_in _) hTk _ (hP.1)).mono ?_; rintro e w' ⟨rfl, hb⟩; replace hR := hR.grow hb; clear hb; rw [hP2]))
              | ((with_reducible apply q_ls hR); exact rfl; (with_reducible apply t_extract); (apply EvC.now; exact rfl); exact rfl; (simp only [cS, cZ]; exact rfl); clear hR; intro w hR)
              | ((with_reducible apply q_ls hR); exact rfl; (with_reducible apply t_cmp); (apply EvC.now; exact rfl); (apply EvC.now; exact rfl); (with_reducible first | exact E1.out | exact E2.out | exact E3.out | exact E4.out | exact E5.out | exact E6.out | exact E7.out); (simp only [cS, cZ]; exact rfl); clear hR; intro w hR)
              | ((with_reducible apply q_ls hR); exact rfl; (with_reducible apply t_numE); (apply EvC.now; exact rfl); (apply EvC.now; exact rfl); exact rfl; (with_reducible first | exact M1.out | exact M2.out | exact M3.out); (simp only [cS, cZ]; exact rfl); clear hR; intro w hR)
          
              | ((with_reducible apply wpList_box hR); exact rfl; exact rfl; clear hR; intro g w hR; simp only [cS, cZ])
              | ((with_reducible apply wpList_make hR zOpd); exact rfl; clear hR; intro g w hR; simp only [cS, cZ])
              | ((with_reducible apply q_ls hR); exact rfl; ((with_reducible first | apply t_one tIntV | apply t_one tStrE | apply t_part tOpd) <;> (first | (focus (repeat (first | (apply EvC.gv; exact rfl; (with_reducible first | exact Imp.refl _ | (apply Imp.left; exact Imp.refl _) | (apply Imp.right; exact Imp.refl _) | (apply Imp.left; apply Imp.left; exact Imp.refl _))) | (apply EvC.now; exact rfl) | (with_reducible first | apply EvAll.cons | exact EvAll.nil))); done) | exact rfl | exact ext_opd _ | (focus (repeat (first | apply List.Mem.head | apply List.Mem.tail | apply List.mem_append_right))))); (simp only [cS, cZ]; exact rfl); clear hR; intro w hR)
              | ((with_reducible apply wpList_put hR tOpd); exact rfl; exact rfl; exact rfl; (focus (repeat (first | apply List.Mem.head | apply List.Mem.tail | apply List.mem_append_right))); exact put_opd _ _; exact rfl; exact Nat.le_refl 12; exact one_opd _; (focus (repeat (first | apply Upd.head | apply Upd.tail))); clear hR; intro w hR))
          refine wp_region_tame hR [0, 1, 2, 3, 4, 5, 6, 7, 8, 9, 10, 11, 12, 13] rfl ?_
          repeat (refine wpT_step rfl ?_; first
              | ((with_reducible apply q_kn); exact rfl; (with_reducible apply t_call Tryd.call10); (first | (focus (repeat (first | (apply EvC.gv; exact rfl; (with_reducible first | exact Imp.refl _ | (apply Imp.left; exact Imp.refl _) | (apply Imp.right; exact Imp.refl _) | (apply Imp.left; apply Imp.left; exact Imp.refl _))) | (apply EvC.now; exact rfl) | (with_reducible first | apply EvAll.cons | exact EvAll.nil))); done) | exact rfl | exact ext_opd _ | (focus (repeat (first | apply List.Mem.head | apply List.Mem.tail | apply List.mem_append_right)))); (intro hcc w hC; exact tame_below (awake_any (hT.own hC)) hC); (simp only [cS, cZ]; exact rfl))
              | ((with_reducible apply q_kn); exact rfl; (with_reducible apply t_eql gOpd); (apply EvC.now; exact rfl); (apply EvC.now; exact rfl); exact eqO_self _; (simp only [cS, cZ]; exact rfl))
              | ((with_reducible apply q_kn); exact rfl; (with_reducible apply t_cmp (op := .eql)); (apply EvC.now; exact rfl); (apply EvC.now; exact rfl); exact rfl; (simp only [cS, cZ]; exact rfl))
              | ((with_reducible apply q_kn); exact rfl; (with_reducible apply t_built); exact rfl; (with_reducible first | exact bOpd0 | exact bValN _ _ | exact bOpdM _ _); (simp only [cS, cZ]; exact rfl))
              | ((with_reducible apply q_kn); exact rfl; (first | ((with_reducible first | apply t_move | apply t_assign | apply t_one tIntV | apply t_one tStrE | apply t_part tOpd) <;> (first | (focus (repeat (first | (apply EvC.gv; exact rfl; (with_reducible first | exact Imp.refl _ | (apply Imp.left; exact Imp.refl _) | (apply Imp.right; exact Imp.refl _) | (apply Imp.left; apply Imp.left; exact Imp.refl _))) | (apply EvC.now; exact rfl) | (with_reducible first | apply EvAll.cons | exact EvAll.nil))); done) | exact rfl | exact ext_opd _ | (focus (repeat (first | apply List.Mem.head | apply List.Mem.tail | apply List.mem_append_right))))) | ((with_reducible apply t_pick); (apply EvC.now; exact rfl); (apply EvC.now; exact rfl))); (simp only [cS, cZ]; exact rfl))
              | ((with_reducible apply wpT1_skipL); exact rfl; (simp only [cS, cZ]; exact rfl)))
          refine wpT_nil ?_
          clear hR; intro w hR
          go_wp2_with fail
          go_ret
          exact ⟨ret_bool (by kernel_rfl), (hZ.own hR).below⟩
      · have E4 := Lib.hid (show cmpB .lss (x : Int) 2 = some false from congrArg some (decide_eq_false (by omega)))
        by_cases y2 : y < 2
        · have e : rmOf x y = 2 * (y : Int) + x - 2 := by rw [e0, if_neg (by omega), if_pos (by omega)]
          have hP2 : opdR (parseM zTab 40 (.ex 1) (startS (memT2 x y k))) = (⟨5, 0, 2 * (y : Int) + x - 2, ⟨k, 0, 0, 0, 0, true⟩, 0, 0, false⟩, 0) := hP.2.trans (by rw [e]; exact if_neg (by omega))
          clear e
          have E5 := Lib.hid (show cmpB .lss (y : Int) 2 = some true from congrArg some (decide_eq_true (by omega)))
          have E6 := Lib.hid (show cmpB .geq (x : Int) 2 = some true from congrArg some (decide_eq_true (by omega)))
          have E7 := Lib.hid (show cmpB .lss (2 * (y : Int) + x - 2 : Int) 0 = some false from congrArg some (decide_eq_false (by omega)))
          have M1 := Lib.hid (show IntKind.i64.wrap (2 * (y : Int)) = 2 * (y : Int) from IntWalk.i64_in _ (by omega))
          have M2 := Lib.hid (show IntKind.i64.wrap (2 * (y : Int) + x) = 2 * (y : Int) + x from IntWalk.i64_in _ (by omega))
          have M3 := Lib.hid (show IntKind.i64.wrap (2 * (y : Int) + x - 2) = 2 * (y : Int) + x - 2 from IntWalk.i64_in _ (by omega))
          clear e0 x4 y4 x2 y2
          go_upto_region 23 with (first
              | (go_at_call 9; refine (toksE_any hAr (hSt.own hR) (Nat.le_of_ble_eq_true rfl)).mono ?_; rintro e w' ⟨vt, rfl, hb, hTk⟩; replace hR := hR.grow hb; clear hb)
              | ((with_reducible apply wpList_built); exact rfl; exact rfl; exact bTab0; (simp only [cS, cZ]; exact rfl))
              | (go_at_call 12; (refine (operE_any (hT.own hR) (zTab_in _) hTk _ (hP.1)).mono ?_; rintro e w' ⟨rfl, hb⟩; replace hR := hR.grow hb; clear hb; rw [hP2]))
              | ((with_reducible apply q_ls hR); exact rfl; (with_reducible apply t_extract); (apply EvC.now; exact rfl); exact rfl; (simp only [cS, cZ]; exact rfl); clear hR; intro w hR)
              | ((with_reducible apply q_ls hR); exact rfl; (with_reducible apply t_cmp); (apply EvC.now; exact rfl); (apply EvC.now; exact rfl); (with_reducible first | exact E1.out | exact E2.out | exact E3.out | exact E4.out | exact E5.out | exact E6.out | exact E7.out); (simp only [cS, cZ]; exact rfl); clear hR; intro w hR)
              | ((with_reducible apply q_ls hR); exact rfl; (with_reducible apply t_numE); (apply EvC.now; exact rfl); (apply EvC.now; exact rfl); exact rfl; (with_reducible first | exact M1.out | exact M2.out | exact M3.out); (simp only [cS, cZ]; exact rfl); clear hR; intro w hR)
          
              | ((with_reducible apply wpList_box hR); exact rfl; exact rfl; clear hR; intro g w hR; simp only [cS, cZ])
              | ((with_reducible apply wpList_make hR zOpd); exact rfl; clear hR; intro g w hR; simp only [cS, cZ])
              | ((with_reducible apply q_ls hR); exact rfl; ((with_reducible first | apply t_one tIntV | apply t_one tStrE | apply t_part tOpd) <;> (first | (focus (repeat (first | (apply EvC.gv; exact rfl; (with_reducible first | exact Imp.refl _ | (apply Imp.left; exact Imp.refl _) | (apply Imp.right; exact Imp.refl _) | (apply Imp.left; apply Imp.left; exact Imp.refl _))) | (apply EvC.now; exact rfl) | (with_reducible first | apply EvAll.cons | exact EvAll.nil))); done) | exact rfl | exact ext_opd _ | (focus (repeat (first | apply List.Mem.head | apply List.Mem.tail | apply List.mem_append_right))))); (simp only [cS, cZ]; exact rfl); clear hR; intro w hR)
              | ((with_reducible apply wpList_put hR tOpd); exact rfl; exact rfl; exact rfl; (focus (repeat (first | apply List.Mem.head | apply List.Mem.tail | apply List.mem_append_right))); exact put_opd _ _; exact rfl; exact Nat.le_refl 12; exact one_opd _; (focus (repeat (first | apply Upd.head | apply Upd.tail))); clear hR; intro w hR))
          refine wp_region_tame hR [0, 1, 2, 3, 4, 5, 6, 7, 8, 9, 10, 11, 12, 13] rfl ?_
          repeat (refine wpT_step rfl ?_; first
              | ((with_reducible apply q_kn); exact rfl; (with_reducible apply t_call Tryd.call10); (first | (focus (repeat (first | (apply EvC.gv; exact rfl; (with_reducible first | exact Imp.refl _ | (apply Imp.left; exact Imp.refl _) | (apply Imp.right; exact Imp.refl _) | (apply Imp.left; apply Imp.left; exact Imp.refl _))) | (apply EvC.now; exact rfl) | (with_reducible first | apply EvAll.cons | exact EvAll.nil))); done) | exact rfl | exact ext_opd _ | (focus (repeat (first | apply List.Mem.head | apply List.Mem.tail | apply List.mem_append_right)))); (intro hcc w hC; exact tame_below (awake_any (hT.own hC)) hC); (simp only [cS, cZ]; exact rfl))
              | ((with_reducible apply q_kn); exact rfl; (with_reducible apply t_eql gOpd); (apply EvC.now; exact rfl); (apply EvC.now; exact rfl); exact eqO_self _; (simp only [cS, cZ]; exact rfl))
              | ((with_reducible apply q_kn); exact rfl; (with_reducible apply t_cmp (op := .eql)); (apply EvC.now; exact rfl); (apply EvC.now; exact rfl); exact rfl; (simp only [cS, cZ]; exact rfl))
              | ((with_reducible apply q_kn); exact rfl; (with_reducible apply t_built); exact rfl; (with_reducible first | exact bOpd0 | exact bValN _ _ | exact bOpdM _ _); (simp only [cS, cZ]; exact rfl))
              | ((with_reducible apply q_kn); exact rfl; (first | ((with_reducible first | apply t_move | apply t_assign | apply t_one tIntV | apply t_one tStrE | apply t_part tOpd) <;> (first | (focus (repeat (first | (apply EvC.gv; exact rfl; (with_reducible first | exact Imp.refl _ | (apply Imp.left; exact Imp.refl _) | (apply Imp.right; exact Imp.refl _) | (apply Imp.left; apply Imp.left; exact Imp.refl _))) | (apply EvC.now; exact rfl) | (with_reducible first | apply EvAll.cons | exact EvAll.nil))); done) | exact rfl | exact ext_opd _ | (focus (repeat (first | apply List.Mem.head | apply List.Mem.tail | apply List.mem_append_right))))) | ((with_reducible apply t_pick); (apply EvC.now; exact rfl); (apply EvC.now; exact rfl))); (simp only [cS, cZ]; exact rfl))
              | ((with_reducible apply wpT1_skipL); exact rfl; (simp only [cS, cZ]; exact rfl)))
          refine wpT_nil ?_
          clear hR; intro w hR
          go_wp2_with fail
          go_ret
          exact ⟨ret_bool (by kernel_rfl), (hZ.own hR).below⟩
        · have e : rmOf x y = -1 := by rw [e0, if_neg (by omega), if_neg (by omega)]
          have hP2 : opdR (parseM zTab 40 (.ex 1) (startS (memT2 x y k))) = (zeroOpd, 3) := hP.2.trans (by rw [e]; rfl)
          clear e
          have E5 := Lib.hid (show cmpB .lss (y : Int) 2 = some false from congrArg some (decide_eq_false (by omega)))
          clear e0 x4 y4 x2 y2
          go_upto_region 22 with (first
              | (go_at_call 9; refine (toksE_any hAr (hSt.own hR) (Nat.le_of_ble_eq_true rfl)).mono ?_; rintro e w' ⟨vt, rfl, hb, hTk⟩; replace hR := hR.grow hb; clear hb)
              | ((with_reducible apply wpList_built); exact rfl; exact rfl; exact bTab0; (simp only [cS, cZ]; exact rfl))
              | (go_at_call 12; (refine (operE_any (hT.own hR) (zTab_in _) hTk _ (hP.1)).mono ?_; rintro e w' ⟨rfl, hb⟩; replace hR := hR.grow hb; clear hb; rw [hP2]))
              | ((with_reducible apply q_ls hR); exact rfl; (with_reducible apply t_extract); (apply EvC.now; exact rfl); exact rfl; (simp only [cS, cZ]; exact rfl); clear hR; intro w hR)
              | ((with_reducible apply q_ls hR); exact rfl; (with_reducible apply t_cmp); (apply EvC.now; exact rfl); (apply EvC.now; exact rfl); (with_reducible first | exact E1.out | exact E2.out | exact E3.out | exact E4.out | exact E5.out | exact E6.out | exact E7.out); (simp only [cS, cZ]; exact rfl); clear hR; intro w hR)
              | ((with_reducible apply q_ls hR); exact rfl; (with_reducible apply t_numE); (apply EvC.now; exact rfl); (apply EvC.now; exact rfl); exact rfl; (with_reducible first | exact M1.out | exact M2.out | exact M3.out); (simp only [cS, cZ]; exact rfl); clear hR; intro w hR)
          
              | ((with_reducible apply wpList_box hR); exact rfl; exact rfl; clear hR; intro g w hR; simp only [cS, cZ])
              | ((with_reducible apply wpList_make hR zOpd); exact rfl; clear hR; intro g w hR; simp only [cS, cZ])
              | ((with_reducible apply q_ls hR); exact rfl; ((with_reducible first | apply t_one tIntV | apply t_one tStrE | apply t_part tOpd) <;> (first | (focus (repeat (first | (apply EvC.gv; exact rfl; (with_reducible first | exact Imp.refl _ | (apply Imp.left; exact Imp.refl _) | (apply Imp.right; exact Imp.refl _) | (apply Imp.left; apply Imp.left; exact Imp.refl _))) | (apply EvC.now; exact rfl) | (with_reducible first | apply EvAll.cons | exact EvAll.nil))); done) | exact rfl | exact ext_opd _ | (focus (repeat (first | apply List.Mem.head | apply List.Mem.tail | apply List.mem_append_right))))); (simp only [cS, cZ]; exact rfl); clear hR; intro w hR)
              | ((with_reducible apply wpList_put hR tOpd); exact rfl; exact rfl; exact rfl; (focus (repeat (first | apply List.Mem.head | apply List.Mem.tail | apply List.mem_append_right))); exact put_opd _ _; exact rfl; exact Nat.le_refl 12; exact one_opd _; (focus (repeat (first | apply Upd.head | apply Upd.tail))); clear hR; intro w hR))
          refine wp_region_tame hR [0, 1, 2, 3, 4, 5, 6, 7, 8, 9, 10] rfl ?_
          repeat (refine wpT_step rfl ?_; first
              | ((with_reducible apply q_kn); exact rfl; (with_reducible apply t_call Tryd.call10); (first | (focus (repeat (first | (apply EvC.gv; exact rfl; (with_reducible first | exact Imp.refl _ | (apply Imp.left; exact Imp.refl _) | (apply Imp.right; exact Imp.refl _) | (apply Imp.left; apply Imp.left; exact Imp.refl _))) | (apply EvC.now; exact rfl) | (with_reducible first | apply EvAll.cons | exact EvAll.nil))); done) | exact rfl | exact ext_opd _ | (focus (repeat (first | apply List.Mem.head | apply List.Mem.tail | apply List.mem_append_right)))); (intro hcc w hC; exact tame_below (awake_any (hT.own hC)) hC); (simp only [cS, cZ]; exact rfl))
              | ((with_reducible apply q_kn); exact rfl; (with_reducible apply t_eql gOpd); (apply EvC.now; exact rfl); (apply EvC.now; exact rfl); exact eqO_self _; (simp only [cS, cZ]; exact rfl))
              | ((with_reducible apply q_kn); exact rfl; (with_reducible apply t_cmp (op := .eql)); (apply EvC.now; exact rfl); (apply EvC.now; exact rfl); exact rfl; (simp only [cS, cZ]; exact rfl))
              | ((with_reducible apply q_kn); exact rfl; (with_reducible apply t_built); exact rfl; (with_reducible first | exact bOpd0 | exact bValN _ _ | exact bOpdM _ _); (simp only [cS, cZ]; exact rfl))
              | ((with_reducible apply q_kn); exact rfl; (first | ((with_reducible first | apply t_move | apply t_assign | apply t_one tIntV | apply t_one tStrE | apply t_part tOpd) <;> (first | (focus (repeat (first | (apply EvC.gv; exact rfl; (with_reducible first | exact Imp.refl _ | (apply Imp.left; exact Imp.refl _) | (apply Imp.right; exact Imp.refl _) | (apply Imp.left; apply Imp.left; exact Imp.refl _))) | (apply EvC.now; exact rfl) | (with_reducible first | apply EvAll.cons | exact EvAll.nil))); done) | exact rfl | exact ext_opd _ | (focus (repeat (first | apply List.Mem.head | apply List.Mem.tail | apply List.mem_append_right))))) | ((with_reducible apply t_pick); (apply EvC.now; exact rfl); (apply EvC.now; exact rfl))); (simp only [cS, cZ]; exact rfl))
              | ((with_reducible apply wpT1_skipL); exact rfl; (simp only [cS, cZ]; exact rfl)))
          refine wpT_nil ?_
          clear hR; intro w hR
          go_wp2_with fail
          go_ret
          exact ⟨ret_bool (by kernel_rfl), (hZ.own hR).below⟩
  · have HY5 := Lib.hid (show cmpB .lss (y : Int) 5 = some false from congrArg some (decide_eq_false (by omega)))
    have y5 : y = 5 := by omega
    subst y5
    go_upto_region 10 with (first
    | ((with_reducible apply q_ls hR); exact rfl; (with_reducible apply t_six Tryd.underlying23 iStrE); (apply EvC.now; exact rfl); (apply EvC.now; exact rfl); exact HXB.out; (simp only [cS, cZ]; exact rfl); clear hR; intro w hR)
    | ((with_reducible apply q_ls hR); exact rfl; (with_reducible apply t_oldOne tStrE); (apply EvC.now; exact rfl); (exact HXC.out); exact rfl; (simp only [cS, cZ]; exact rfl); clear hR; intro w hR)
    | ((with_reducible apply wpList_buildS hR); exact rfl; exact rfl; (exact bStr3 _ _ _); clear hR; intro gs w hR; simp only [cS, cZ])
    | ((with_reducible apply q_ls hR); exact rfl; (with_reducible apply t_shrE (k := 1)); (apply EvC.now; exact rfl); (apply EvC.now; exact rfl); exact rfl; (decide); exact HSH.out; (simp only [cS, cZ]; exact rfl); clear hR; intro w hR)
    | ((with_reducible apply q_ls hR); exact rfl; (with_reducible apply t_numE (op := .and)); (apply EvC.now; exact rfl); (apply EvC.now; exact rfl); exact rfl; (with_reducible first | exact HK.out | exact HF.out); (simp only [cS, cZ]; exact rfl); clear hR; intro w hR)
    | ((with_reducible apply q_ls hR); exact rfl; (with_reducible apply t_cmp); (apply EvC.now; exact rfl); (apply EvC.now; exact rfl); (with_reducible first | exact HF1.out | exact HY5.out); (simp only [cS, cZ]; exact rfl); clear hR; intro w hR)
    | (go_at_call 11; refine (numL_any (n := k) HK100.out _).mono ?_; rintro e w' ⟨rfl, hb⟩; replace hR := hR.grow hb; clear hb)
    | ((with_reducible apply q_ls hR); exact rfl; (with_reducible apply t_catE); (exact lit_now l35); (apply EvC.now; exact rfl); exact HCT.out; exact rfl; (simp only [cS, cZ]; exact rfl); clear hR; intro w hR)
    | ((with_reducible apply wpList_buildS hR); exact rfl; exact rfl; (exact bStr3 _ _ _); clear hR; intro gs w hR; simp only [cS, cZ])
    | ((with_reducible apply wpList_appN hR tStrsK); exact rfl; exact rfl; exact rfl; exact hS; (exact Les.tail Les.head); (focus (repeat (first | apply List.Mem.head | apply List.Mem.tail | apply List.mem_append_right))); (exact Part.all _); (exact rfl); (exact rfl); (decide); clear hR hS; intro s2 v2 w hR hS; simp only [cS, cZ]))
    have hS : Sl 9 1 [(gs, _, 9)] (.slice (some ⟨gs, 0, none⟩) 3 3) 3 (([[91], sx, [93]] : List (List Int)).flatMap cellT) := sl_row rfl rfl (by decide)
    go_upto_region 12 with (first
    | ((with_reducible apply q_ls hR); exact rfl; (with_reducible apply t_shrE (k := 1)); (apply EvC.now; exact rfl); (apply EvC.now; exact rfl); exact rfl; (decide); exact HSH.out; (simp only [cS, cZ]; exact rfl); clear hR; intro w hR)
    | ((with_reducible apply q_ls hR); exact rfl; (with_reducible apply t_numE (op := .and)); (apply EvC.now; exact rfl); (apply EvC.now; exact rfl); exact rfl; (with_reducible first | exact HK.out | exact HF.out); (simp only [cS, cZ]; exact rfl); clear hR; intro w hR)
    | ((with_reducible apply q_ls hR); exact rfl; (with_reducible apply t_cmp); (apply EvC.now; exact rfl); (apply EvC.now; exact rfl); (with_reducible first | exact HF1.out | exact HY5.out); (simp only [cS, cZ]; exact rfl); clear hR; intro w hR)
    | (go_at_call 11; refine (numL_any (n := k) HK100.out _).mono ?_; rintro e w' ⟨rfl, hb⟩; replace hR := hR.grow hb; clear hb)
    | ((with_reducible apply q_ls hR); exact rfl; (with_reducible apply t_catE); (exact lit_now l35); (apply EvC.now; exact rfl); exact HCT.out; exact rfl; (simp only [cS, cZ]; exact rfl); clear hR; intro w hR)
    | ((with_reducible apply wpList_buildS hR); exact rfl; exact rfl; (exact bStr3 _ _ _); clear hR; intro gs w hR; simp only [cS, cZ])
    | ((with_reducible apply wpList_appN hR tStrsK); exact rfl; exact rfl; exact rfl; exact hS; (exact Les.tail Les.head); (focus (repeat (first | apply List.Mem.head | apply List.Mem.tail | apply List.mem_append_right))); (exact Part.all _); (exact rfl); (exact rfl); (decide); clear hR hS; intro s2 v2 w hR hS; simp only [cS, cZ]))
    have hAr : ToksAre ([[91], sx, [93]] ++ kW k) (memT1 x k) := by
      unfold memT1; rw [hsx.ge]
      exact are_app (.cons (.sign (by decide) (by decide) (by decide)) (.cons hsx.tok (.cons (.sign (by decide) (by decide) (by decide)) .nil))) (kW_are hk64)
    have hP := chk_of (chk_1 hx5 hk64)
    clear HY5 hsx hy5 hcell
    have hSt : Strs w v2 ([[91], sx, [93]] ++ kW k) := (hS.cast (ys := ([[91], sx, [93]] ++ kW k).flatMap cellT) rfl).strs hR (fun r hr => List.mem_append_left _ hr) hAr.okS
    clear hS HXC HXB HSH HK HF HCT
    replace hT := hT.own hR
    have hZ2 := (hZ).own hR
    have hR2 := hR.fresh
    clear hR
    try clear hZ
    have hZ := hZ2
    have hR := hR2
    clear hZ2 hR2
    have h2 : x = 0 ∨ x = 1 ∨ x = 2 ∨ x = 3 ∨ x = 4 := by omega
    rcases h2 with rfl | rfl | rfl | rfl | rfl
    · have e : rmOf 0 5 = 7 := rfl
      have hP2 : opdR (parseM zTab 40 (.ex 1) (startS (memT1 0 k))) = (⟨5, 0, 7, ⟨k, 0, 0, 0, 0, true⟩, 0, 0, false⟩, 0) := hP.2.trans (by rw [e]; exact if_neg (by omega))
      clear e
      go_upto_region 23 with (first
          | (go_at_call 9; refine (toksE_any hAr (hSt.own hR) (Nat.le_of_ble_eq_true rfl)).mono ?_; rintro e w' ⟨vt, rfl, hb, hTk⟩; replace hR := hR.grow hb; clear hb)
          | ((with_reducible apply wpList_built); exact rfl; exact rfl; exact bTab0; (simp only [cS, cZ]; exact rfl))
          | (go_at_call 12; (refine (operE_any (hT.own hR) (zTab_in _) hTk _ (hP.1)).mono ?_; rintro e w' ⟨rfl, hb⟩; replace hR := hR.grow hb; clear hb; rw [hP2]))
          | ((with_reducible apply q_ls hR); exact rfl; (with_reducible apply t_extract); (apply EvC.now; exact rfl); exact rfl; (simp only [cS, cZ]; exact rfl); clear hR; intro w hR)
          | ((with_reducible apply q_ls hR); exact rfl; (with_reducible apply t_cmp); (apply EvC.now; exact rfl); (apply EvC.now; exact rfl); (with_reducible first | exact E1.out | exact E2.out | exact E3.out | exact E4.out | exact E5.out | exact E6.out | exact E7.out); (simp only [cS, cZ]; exact rfl); clear hR; intro w hR)
          | ((with_reducible apply q_ls hR); exact rfl; (with_reducible apply t_numE); (apply EvC.now; exact rfl); (apply EvC.now; exact rfl); exact rfl; (with_reducible first | exact M1.out | exact M2.out | exact M3.out); (simp only [cS, cZ]; exact rfl); clear hR; intro w hR)
          | ((with_reducible apply wpList_buildS hR); exact rfl; exact rfl; (exact bInt4 _ _ _ _); clear hR; intro g4 w hR; simp only [cS, cZ])
          | ((with_reducible apply q_ls hR); exact rfl; (with_reducible apply t_six Tryd.underlying22 iIntE); (apply EvC.now; exact rfl); (apply EvC.now; exact rfl); (constructor <;> decide); (simp only [cS, cZ]; exact rfl); clear hR; intro w hR)
          | ((with_reducible apply wpList_box hR); exact rfl; exact rfl; clear hR; intro g w hR; simp only [cS, cZ])
          | ((with_reducible apply wpList_make hR zOpd); exact rfl; clear hR; intro g w hR; simp only [cS, cZ])
          | ((with_reducible apply q_ls hR); exact rfl; ((with_reducible first | apply t_one tIntV | apply t_one tStrE | apply t_part tOpd) <;> (first | (focus (repeat (first | (apply EvC.gv; exact rfl; (with_reducible first | exact Imp.refl _ | (apply Imp.left; exact Imp.refl _) | (apply Imp.right; exact Imp.refl _) | (apply Imp.left; apply Imp.left; exact Imp.refl _))) | (apply EvC.now; exact rfl) | (with_reducible first | apply EvAll.cons | exact EvAll.nil))); done) | exact rfl | exact ext_opd _ | (focus (repeat (first | apply List.Mem.head | apply List.Mem.tail | apply List.mem_append_right))))); (simp only [cS, cZ]; exact rfl); clear hR; intro w hR)
          | ((with_reducible apply wpList_put hR tOpd); exact rfl; exact rfl; exact rfl; (focus (repeat (first | apply List.Mem.head | apply List.Mem.tail | apply List.mem_append_right))); exact put_opd _ _; exact rfl; exact Nat.le_refl 12; exact one_opd _; (focus (repeat (first | apply Upd.head | apply Upd.tail))); clear hR; intro w hR))
      refine wp_region_tame hR [0, 1, 2, 3, 4, 5, 6, 7, 8, 9, 10, 11, 12, 13] rfl ?_
      repeat (refine wpT_step rfl ?_; first
          | ((with_reducible apply q_kn); exact rfl; (with_reducible apply t_call Tryd.call10); (first | (focus (repeat (first | (apply EvC.gv; exact rfl; (with_reducible first | exact Imp.refl _ | (apply Imp.left; exact Imp.refl _) | (apply Imp.right; exact Imp.refl _) | (apply Imp.left; apply Imp.left; exact Imp.refl _))) | (apply EvC.now; exact rfl) | (with_reducible first | apply EvAll.cons | exact EvAll.nil))); done) | exact rfl | exact ext_opd _ | (focus (repeat (first | apply List.Mem.head | apply List.Mem.tail | apply List.mem_append_right)))); (intro hcc w hC; exact tame_below (awake_any (hT.own hC)) hC); (simp only [cS, cZ]; exact rfl))
          | ((with_reducible apply q_kn); exact rfl; (with_reducible apply t_eql gOpd); (apply EvC.now; exact rfl); (apply EvC.now; exact rfl); exact eqO_self _; (simp only [cS, cZ]; exact rfl))
          | ((with_reducible apply q_kn); exact rfl; (with_reducible apply t_cmp (op := .eql)); (apply EvC.now; exact rfl); (apply EvC.now; exact rfl); exact rfl; (simp only [cS, cZ]; exact rfl))
          | ((with_reducible apply q_kn); exact rfl; (with_reducible apply t_built); exact rfl; (with_reducible first | exact bOpd0 | exact bValN _ _ | exact bOpdM _ _); (simp only [cS, cZ]; exact rfl))
          | ((with_reducible apply q_kn); exact rfl; (first | ((with_reducible first | apply t_move | apply t_assign | apply t_one tIntV | apply t_one tStrE | apply t_part tOpd) <;> (first | (focus (repeat (first | (apply EvC.gv; exact rfl; (with_reducible first | exact Imp.refl _ | (apply Imp.left; exact Imp.refl _) | (apply Imp.right; exact Imp.refl _) | (apply Imp.left; apply Imp.left; exact Imp.refl _))) | (apply EvC.now; exact rfl) | (with_reducible first | apply EvAll.cons | exact EvAll.nil))); done) | exact rfl | exact ext_opd _ | (focus (repeat (first | apply List.Mem.head | apply List.Mem.tail | apply List.mem_append_right))))) | ((with_reducible apply t_pick); (apply EvC.now; exact rfl); (apply EvC.now; exact rfl))); (simp only [cS, cZ]; exact rfl))
          | ((with_reducible apply wpT1_skipL); exact rfl; (simp only [cS, cZ]; exact rfl)))
      refine wpT_nil ?_
      clear hR; intro w hR
      go_wp2_with fail
      go_ret
      exact ⟨ret_bool (by kernel_rfl), (hZ.own hR).below⟩
    · have e : rmOf 1 5 = 6 := rfl
      have hP2 : opdR (parseM zTab 40 (.ex 1) (startS (memT1 1 k))) = (⟨5, 0, 6, ⟨k, 0, 0, 0, 0, true⟩, 0, 0, false⟩, 0) := hP.2.trans (by rw [e]; exact if_neg (by omega))
      clear e
      go_upto_region 23 with (first
          | (go_at_call 9; refine (toksE_any hAr (hSt.own hR) (Nat.le_of_ble_eq_true rfl)).mono ?_; rintro e w' ⟨vt, rfl, hb, hTk⟩; replace hR := hR.grow hb; clear hb)
          | ((with_reducible apply wpList_built); exact rfl; exact rfl; exact bTab0; (simp only [cS, cZ]; exact rfl))
          | (go_at_call 12; (refine (operE_any (hT.own hR) (zTab_in _) hTk _ (hP.1)).mono ?_; rintro e w' ⟨rfl, hb⟩; replace hR := hR.grow hb; clear hb; rw [hP2]))
          | ((with_reducible apply q_ls hR); exact rfl; (with_reducible apply t_extract); (apply EvC.now; exact rfl); exact rfl; (simp only [cS, cZ]; exact rfl); clear hR; intro w hR)
          | ((with_reducible apply q_ls hR); exact rfl; (with_reducible apply t_cmp); (apply EvC.now; exact rfl); (apply EvC.now; exact rfl); (with_reducible first | exact E1.out | exact E2.out | exact E3.out | exact E4.out | exact E5.out | exact E6.out | exact E7.out); (simp only [cS, cZ]; exact rfl); clear hR; intro w hR)
          | ((with_reducible apply q_ls hR); exact rfl; (with_reducible apply t_numE); (apply EvC.now; exact rfl); (apply EvC.now; exact rfl); exact rfl; (with_reducible first | exact M1.out | exact M2.out | exact M3.out); (simp only [cS, cZ]; exact rfl); clear hR; intro w hR)
          | ((with_reducible apply wpList_buildS hR); exact rfl; exact rfl; (exact bInt4 _ _ _ _); clear hR; intro g4 w hR; simp only [cS, cZ])
          | ((with_reducible apply q_ls hR); exact rfl; (with_reducible apply t_six Tryd.underlying22 iIntE); (apply EvC.now; exact rfl); (apply EvC.now; exact rfl); (constructor <;> decide); (simp only [cS, cZ]; exact rfl); clear hR; intro w hR)
          | ((with_reducible apply wpList_box hR); exact rfl; exact rfl; clear hR; intro g w hR; simp only [cS, cZ])
          | ((with_reducible apply wpList_make hR zOpd); exact rfl; clear hR; intro g w hR; simp only [cS, cZ])
          | ((with_reducible apply q_ls hR); exact rfl; ((with_reducible first | apply t_one tIntV | apply t_one tStrE | apply t_part tOpd) <;> (first | (focus (repeat (first | (apply EvC.gv; exact rfl; (with_reducible first | exact Imp.refl _ | (apply Imp.left; exact Imp.refl _) | (apply Imp.right; exact Imp.refl _) | (apply Imp.left; apply Imp.left; exact Imp.refl _))) | (apply EvC.now; exact rfl) | (with_reducible first | apply EvAll.cons | exact EvAll.nil))); done) | exact rfl | exact ext_opd _ | (focus (repeat (first | apply List.Mem.head | apply List.Mem.tail | apply List.mem_append_right))))); (simp only [cS, cZ]; exact rfl); clear hR; intro w hR)
          | ((with_reducible apply wpList_put hR tOpd); exact rfl; exact rfl; exact rfl; (focus (repeat (first | apply List.Mem.head | apply List.Mem.tail | apply List.mem_append_right))); exact put_opd _ _; exact rfl; exact Nat.le_refl 12; exact one_opd _; (focus (repeat (first | apply Upd.head | apply Upd.tail))); clear hR; intro w hR))
      refine wp_region_tame hR [0, 1, 2, 3, 4, 5, 6, 7, 8, 9, 10, 11, 12, 13] rfl ?_
      repeat (refine wpT_step rfl ?_; first
          | ((with_reducible apply q_kn); exact rfl; (with_reducible apply t_call Tryd.call10); (first | (focus (repeat (first | (apply EvC.gv; exact rfl; (with_reducible first | exact Imp.refl _ | (apply Imp.left; exact Imp.refl _) | (apply Imp.right; exact Imp.refl _) | (apply Imp.left; apply Imp.left; exact Imp.refl _))) | (apply EvC.now; exact rfl) | (with_reducible first | apply EvAll.cons | exact EvAll.nil))); done) | exact rfl | exact ext_opd _ | (focus (repeat (first | apply List.Mem.head | apply List.Mem.tail | apply List.mem_append_right)))); (intro hcc w hC; exact tame_below (awake_any (hT.own hC)) hC); (simp only [cS, cZ]; exact rfl))
          | ((with_reducible apply q_kn); exact rfl; (with_reducible apply t_eql gOpd); (apply EvC.now; exact rfl); (apply EvC.now; exact rfl); exact eqO_self _; (simp only [cS, cZ]; exact rfl))
          | ((with_reducible apply q_kn); exact rfl; (with_reducible apply t_cmp (op := .eql)); (apply EvC.now; exact rfl); (apply EvC.now; exact rfl); exact rfl; (simp only [cS, cZ]; exact rfl))
          | ((with_reducible apply q_kn); exact rfl; (with_reducible apply t_built); exact rfl; (with_reducible first | exact bOpd0 | exact bValN _ _ | exact bOpdM _ _); (simp only [cS, cZ]; exact rfl))
          | ((with_reducible apply q_kn); exact rfl; (first | ((with_reducible first | apply t_move | apply t_assign | apply t_one tIntV | apply t_one tStrE | apply t_part tOpd) <;> (first | (focus (repeat (first | (apply EvC.gv; exact rfl; (with_reducible first | exact Imp.refl _ | (apply Imp.left; exact Imp.refl _) | (apply Imp.right; exact Imp.refl _) | (apply Imp.left; apply Imp.left; exact Imp.refl _))) | (apply EvC.now; exact rfl) | (with_reducible first | apply EvAll.cons | exact EvAll.nil))); done) | exact rfl | exact ext_opd _ | (focus (repeat (first | apply List.Mem.head | apply List.Mem.tail | apply List.mem_append_right))))) | ((with_reducible apply t_pick); (apply EvC.now; exact rfl); (apply EvC.now; exact rfl))); (simp only [cS, cZ]; exact rfl))
          | ((with_reducible apply wpT1_skipL); exact rfl; (simp only [cS, cZ]; exact rfl)))
      refine wpT_nil ?_
      clear hR; intro w hR
      go_wp2_with fail
      go_ret
      exact ⟨ret_bool (by kernel_rfl), (hZ.own hR).below⟩
    · have e : rmOf 2 5 = 4 := rfl
      have hP2 : opdR (parseM zTab 40 (.ex 1) (startS (memT1 2 k))) = (⟨5, 0, 4, ⟨k, 0, 0, 0, 0, true⟩, 0, 0, false⟩, 0) := hP.2.trans (by rw [e]; exact if_neg (by omega))
      clear e
      go_upto_region 23 with (first
          | (go_at_call 9; refine (toksE_any hAr (hSt.own hR) (Nat.le_of_ble_eq_true rfl)).mono ?_; rintro e w' ⟨vt, rfl, hb, hTk⟩; replace hR := hR.grow hb; clear hb)
          | ((with_reducible apply wpList_built); exact rfl; exact rfl; exact bTab0; (simp only [cS, cZ]; exact rfl))
          | (go_at_call 12; (refine (operE_any (hT.own hR) (zTab_in _) hTk _ (hP.1)).mono ?_; rintro e w' ⟨rfl, hb⟩; replace hR := hR.grow hb; clear hb; rw [hP2]))
          | ((with_reducible apply q_ls hR); exact rfl; (with_reducible apply t_extract); (apply EvC.now; exact rfl); exact rfl; (simp only [cS, cZ]; exact rfl); clear hR; intro w hR)
          | ((with_reducible apply q_ls hR); exact rfl; (with_reducible apply t_cmp); (apply EvC.now; exact rfl); (apply EvC.now; exact rfl); (with_reducible first | exact E1.out | exact E2.out | exact E3.out | exact E4.out | exact E5.out | exact E6.out | exact E7.out); (simp only [cS, cZ]; exact rfl); clear hR; intro w hR)
          | ((with_reducible apply q_ls hR); exact rfl; (with_reducible apply t_numE); (apply EvC.now; exact rfl); (apply EvC.now; exact rfl); exact rfl; (with_reducible first | exact M1.out | exact M2.out | exact M3.out); (simp only [cS, cZ]; exact rfl); clear hR; intro w hR)
          | ((with_reducible apply wpList_buildS hR); exact rfl; exact rfl; (exact bInt4 _ _ _ _); clear hR; intro g4 w hR; simp only [cS, cZ])
          | ((with_reducible apply q_ls hR); exact rfl; (with_reducible apply t_six Tryd.underlying22 iIntE); (apply EvC.now; exact rfl); (apply EvC.now; exact rfl); (constructor <;> decide); (simp only [cS, cZ]; exact rfl); clear hR; intro w hR)
          | ((with_reducible apply wpList_box hR); exact rfl; exact rfl; clear hR; intro g w hR; simp only [cS, cZ])
          | ((with_reducible apply wpList_make hR zOpd); exact rfl; clear hR; intro g w hR; simp only [cS, cZ])
          | ((with_reducible apply q_ls hR); exact rfl; ((with_reducible first | apply t_one tIntV | apply t_one tStrE | apply t_part tOpd) <;> (first | (focus (repeat (first | (apply EvC.gv; exact rfl; (with_reducible first | exact Imp.refl _ | (apply Imp.left; exact Imp.refl _) | (apply Imp.right; exact Imp.refl _) | (apply Imp.left; apply Imp.left; exact Imp.refl _))) | (apply EvC.now; exact rfl) | (with_reducible first | apply EvAll.cons | exact EvAll.nil))); done) | exact rfl | exact ext_opd _ | (focus (repeat (first | apply List.Mem.head | apply List.Mem.tail | apply List.mem_append_right))))); (simp only [cS, cZ]; exact rfl); clear hR; intro w hR)
          | ((with_reducible apply wpList_put hR tOpd); exact rfl; exact rfl; exact rfl; (focus (repeat (first | apply List.Mem.head | apply List.Mem.tail | apply List.mem_append_right))); exact put_opd _ _; exact rfl; exact Nat.le_refl 12; exact one_opd _; (focus (repeat (first | apply Upd.head | apply Upd.tail))); clear hR; intro w hR))
      refine wp_region_tame hR [0, 1, 2, 3, 4, 5, 6, 7, 8, 9, 10, 11, 12, 13] rfl ?_
      repeat (refine wpT_step rfl ?_; first
          | ((with_reducible apply q_kn); exact rfl; (with_reducible apply t_call Tryd.call10); (first | (focus (repeat (first | (apply EvC.gv; exact rfl; (with_reducible first | exact Imp.refl _ | (apply Imp.left; exact Imp.refl _) | (apply Imp.right; exact Imp.refl _) | (apply Imp.left; apply Imp.left; exact Imp.refl _))) | (apply EvC.now; exact rfl) | (with_reducible first | apply EvAll.cons | exact EvAll.nil))); done) | exact rfl | exact ext_opd _ | (focus (repeat (first | apply List.Mem.head | apply List.Mem.tail | apply List.mem_append_right)))); (intro hcc w hC; exact tame_below (awake_any (hT.own hC)) hC); (simp only [cS, cZ]; exact rfl))
          | ((with_reducible apply q_kn); exact rfl; (with_reducible apply t_eql gOpd); (apply EvC.now; exact rfl); (apply EvC.now; exact rfl); exact eqO_self _; (simp only [cS, cZ]; exact rfl))
          | ((with_reducible apply q_kn); exact rfl; (with_reducible apply t_cmp (op := .eql)); (apply EvC.now; exact rfl); (apply EvC.now; exact rfl); exact rfl; (simp only [cS, cZ]; exact rfl))
          | ((with_reducible apply q_kn); exact rfl; (with_reducible apply t_built); exact rfl; (with_reducible first | exact bOpd0 | exact bValN _ _ | exact bOpdM _ _); (simp only [cS, cZ]; exact rfl))
          | ((with_reducible apply q_kn); exact rfl; (first | ((with_reducible first | apply t_move | apply t_assign | apply t_one tIntV | apply t_one tStrE | apply t_part tOpd) <;> (first | (focus (repeat (first | (apply EvC.gv; exact rfl; (with_reducible first | exact Imp.refl _ | (apply Imp.left; exact Imp.refl _) | (apply Imp.right; exact Imp.refl _) | (apply Imp.left; apply Imp.left; exact Imp.refl _))) | (apply EvC.now; exact rfl) | (with_reducible first | apply EvAll.cons | exact EvAll.nil))); done) | exact rfl | exact ext_opd _ | (focus (repeat (first | apply List.Mem.head | apply List.Mem.tail | apply List.mem_append_right))))) | ((with_reducible apply t_pick); (apply EvC.now; exact rfl); (apply EvC.now; exact rfl))); (simp only [cS, cZ]; exact rfl))
          | ((with_reducible apply wpT1_skipL); exact rfl; (simp only [cS, cZ]; exact rfl)))
      refine wpT_nil ?_
      clear hR; intro w hR
      go_wp2_with fail
      go_ret
      exact ⟨ret_bool (by kernel_rfl), (hZ.own hR).below⟩
    · have e : rmOf 3 5 = 5 := rfl
      have hP2 : opdR (parseM zTab 40 (.ex 1) (startS (memT1 3 k))) = (⟨5, 0, 5, ⟨k, 0, 0, 0, 0, true⟩, 0, 0, false⟩, 0) := hP.2.trans (by rw [e]; exact if_neg (by omega))
      clear e
      go_upto_region 23 with (first
          | (go_at_call 9; refine (toksE_any hAr (hSt.own hR) (Nat.le_of_ble_eq_true rfl)).mono ?_; rintro e w' ⟨vt, rfl, hb, hTk⟩; replace hR := hR.grow hb; clear hb)
          | ((with_reducible apply wpList_built); exact rfl; exact rfl; exact bTab0; (simp only [cS, cZ]; exact rfl))
          | (go_at_call 12; (refine (operE_any (hT.own hR) (zTab_in _) hTk _ (hP.1)).mono ?_; rintro e w' ⟨rfl, hb⟩; replace hR := hR.grow hb; clear hb; rw [hP2]))
          | ((with_reducible apply q_ls hR); exact rfl; (with_reducible apply t_extract); (apply EvC.now; exact rfl); exact rfl; (simp only [cS, cZ]; exact rfl); clear hR; intro w hR)
          | ((with_reducible apply q_ls hR); exact rfl; (with_reducible apply t_cmp); (apply EvC.now; exact rfl); (apply EvC.now; exact rfl); (with_reducible first | exact E1.out | exact E2.out | exact E3.out | exact E4.out | exact E5.out | exact E6.out | exact E7.out); (simp only [cS, cZ]; exact rfl); clear hR; intro w hR)
          | ((with_reducible apply q_ls hR); exact rfl; (with_reducible apply t_numE); (apply EvC.now; exact rfl); (apply EvC.now; exact rfl); exact rfl; (with_reducible first | exact M1.out | exact M2.out | exact M3.out); (simp only [cS, cZ]; exact rfl); clear hR; intro w hR)
          | ((with_reducible apply wpList_buildS hR); exact rfl; exact rfl; (exact bInt4 _ _ _ _); clear hR; intro g4 w hR; simp only [cS, cZ])
          | ((with_reducible apply q_ls hR); exact rfl; (with_reducible apply t_six Tryd.underlying22 iIntE); (apply EvC.now; exact rfl); (apply EvC.now; exact rfl); (constructor <;> decide); (simp only [cS, cZ]; exact rfl); clear hR; intro w hR)
          | ((with_reducible apply wpList_box hR); exact rfl; exact rfl; clear hR; intro g w hR; simp only [cS, cZ])
          | ((with_reducible apply wpList_make hR zOpd); exact rfl; clear hR; intro g w hR; simp only [cS, cZ])
          | ((with_reducible apply q_ls hR); exact rfl; ((with_reducible first | apply t_one tIntV | apply t_one tStrE | apply t_part tOpd) <;> (first | (focus (repeat (first | (apply EvC.gv; exact rfl; (with_reducible first | exact Imp.refl _ | (apply Imp.left; exact Imp.refl _) | (apply Imp.right; exact Imp.refl _) | (apply Imp.left; apply Imp.left; exact Imp.refl _))) | (apply EvC.now; exact rfl) | (with_reducible first | apply EvAll.cons | exact EvAll.nil))); done) | exact rfl | exact ext_opd _ | (focus (repeat (first | apply List.Mem.head | apply List.Mem.tail | apply List.mem_append_right))))); (simp only [cS, cZ]; exact rfl); clear hR; intro w hR)
          | ((with_reducible apply wpList_put hR tOpd); exact rfl; exact rfl; exact rfl; (focus (repeat (first | apply List.Mem.head | apply List.Mem.tail | apply List.mem_append_right))); exact put_opd _ _; exact rfl; exact Nat.le_refl 12; exact one_opd _; (focus (repeat (first | apply Upd.head | apply Upd.tail))); clear hR; intro w hR))
      refine wp_region_tame hR [0, 1, 2, 3, 4, 5, 6, 7, 8, 9, 10, 11, 12, 13] rfl ?_
      repeat (refine wpT_step rfl ?_; first
          | ((with_reducible apply q_kn); exact rfl; (with_reducible apply t_call Tryd.call10); (first | (focus (repeat (first | (apply EvC.gv; exact rfl; (with_reducible first | exact Imp.refl _ | (apply Imp.left; exact Imp.refl _) | (apply Imp.right; exact Imp.refl _) | (apply Imp.left; apply Imp.left; exact Imp.refl _))) | (apply EvC.now; exact rfl) | (with_reducible first | apply EvAll.cons | exact EvAll.nil))); done) | exact rfl | exact ext_opd _ | (focus (repeat (first | apply List.Mem.head | apply List.Mem.tail | apply List.mem_append_right)))); (intro hcc w hC; exact tame_below (awake_any (hT.own hC)) hC); (simp only [cS, cZ]; exact rfl))
          | ((with_reducible apply q_kn); exact rfl; (with_reducible apply t_eql gOpd); (apply EvC.now; exact rfl); (apply EvC.now; exact rfl); exact eqO_self _; (simp only [cS, cZ]; exact rfl))
          | ((with_reducible apply q_kn); exact rfl; (with_reducible apply t_cmp (op := .eql)); (apply EvC.now; exact rfl); (apply EvC.now; exact rfl); exact rfl; (simp only [cS, cZ]; exact rfl))
          | ((with_reducible apply q_kn); exact rfl; (with_reducible apply t_built); exact rfl; (with_reducible first | exact bOpd0 | exact bValN _ _ | exact bOpdM _ _); (simp only [cS, cZ]; exact rfl))
          | ((with_reducible apply q_kn); exact rfl; (first | ((with_reducible first | apply t_move | apply t_assign | apply t_one tIntV | apply t_one tStrE | apply t_part tOpd) <;> (first | (focus (repeat (first | (apply EvC.gv; exact rfl; (with_reducible first | exact Imp.refl _ | (apply Imp.left; exact Imp.refl _) | (apply Imp.right; exact Imp.refl _) | (apply Imp.left; apply Imp.left; exact Imp.refl _))) | (apply EvC.now; exact rfl) | (with_reducible first | apply EvAll.cons | exact EvAll.nil))); done) | exact rfl | exact ext_opd _ | (focus (repeat (first | apply List.Mem.head | apply List.Mem.tail | apply List.mem_append_right))))) | ((with_reducible apply t_pick); (apply EvC.now; exact rfl); (apply EvC.now; exact rfl))); (simp only [cS, cZ]; exact rfl))
          | ((with_reducible apply wpT1_skipL); exact rfl; (simp only [cS, cZ]; exact rfl)))
      refine wpT_nil ?_
      clear hR; intro w hR
      go_wp2_with fail
      go_ret
      exact ⟨ret_bool (by kernel_rfl), (hZ.own hR).below⟩
    · have e : rmOf 4 5 = -1 := rfl
      have hP2 : opdR (parseM zTab 40 (.ex 1) (startS (memT1 4 k))) = (zeroOpd, 3) := hP.2.trans (by rw [e]; rfl)
      clear e
      go_upto_region 22 with (first
          | (go_at_call 9; refine (toksE_any hAr (hSt.own hR) (Nat.le_of_ble_eq_true rfl)).mono ?_; rintro e w' ⟨vt, rfl, hb, hTk⟩; replace hR := hR.grow hb; clear hb)
          | ((with_reducible apply wpList_built); exact rfl; exact rfl; exact bTab0; (simp only [cS, cZ]; exact rfl))
          | (go_at_call 12; (refine (operE_any (hT.own hR) (zTab_in _) hTk _ (hP.1)).mono ?_; rintro e w' ⟨rfl, hb⟩; replace hR := hR.grow hb; clear hb; rw [hP2]))
          | ((with_reducible apply q_ls hR); exact rfl; (with_reducible apply t_extract); (apply EvC.now; exact rfl); exact rfl; (simp only [cS, cZ]; exact rfl); clear hR; intro w hR)
          | ((with_reducible apply q_ls hR); exact rfl; (with_reducible apply t_cmp); (apply EvC.now; exact rfl); (apply EvC.now; exact rfl); (with_reducible first | exact E1.out | exact E2.out | exact E3.out | exact E4.out | exact E5.out | exact E6.out | exact E7.out); (simp only [cS, cZ]; exact rfl); clear hR; intro w hR)
          | ((with_reducible apply q_ls hR); exact rfl; (with_reducible apply t_numE); (apply EvC.now; exact rfl); (apply EvC.now; exact rfl); exact rfl; (with_reducible first | exact M1.out | exact M2.out | exact M3.out); (simp only [cS, cZ]; exact rfl); clear hR; intro w hR)
      
          | ((with_reducible apply wpList_box hR); exact rfl; exact rfl; clear hR; intro g w hR; simp only [cS, cZ])
          | ((with_reducible apply wpList_make hR zOpd); exact rfl; clear hR; intro g w hR; simp only [cS, cZ])
          | ((with_reducible apply q_ls hR); exact rfl; ((with_reducible first | apply t_one tIntV | apply t_one tStrE | apply t_part tOpd) <;> (first | (focus (repeat (first | (apply EvC.gv; exact rfl; (with_reducible first | exact Imp.refl _ | (apply Imp.left; exact Imp.refl _) | (apply Imp.right; exact Imp.refl _) | (apply Imp.left; apply Imp.left; exact Imp.refl _))) | (apply EvC.now; exact rfl) | (with_reducible first | apply EvAll.cons | exact EvAll.nil))); done) | exact rfl | exact ext_opd _ | (focus (repeat (first | apply List.Mem.head | apply List.Mem.tail | apply List.mem_append_right))))); (simp only [cS, cZ]; exact rfl); clear hR; intro w hR)
          | ((with_reducible apply wpList_put hR tOpd); exact rfl; exact rfl; exact rfl; (focus (repeat (first | apply List.Mem.head | apply List.Mem.tail | apply List.mem_append_right))); exact put_opd _ _; exact rfl; exact Nat.le_refl 12; exact one_opd _; (focus (repeat (first | apply Upd.head | apply Upd.tail))); clear hR; intro w hR))
      refine wp_region_tame hR [0, 1, 2, 3, 4, 5, 6, 7, 8, 9, 10] rfl ?_
      repeat (refine wpT_step rfl ?_; first
          | ((with_reducible apply q_kn); exact rfl; (with_reducible apply t_call Tryd.call10); (first | (focus (repeat (first | (apply EvC.gv; exact rfl; (with_reducible first | exact Imp.refl _ | (apply Imp.left; exact Imp.refl _) | (apply Imp.right; exact Imp.refl _) | (apply Imp.left; apply Imp.left; exact Imp.refl _))) | (apply EvC.now; exact rfl) | (with_reducible first | apply EvAll.cons | exact EvAll.nil))); done) | exact rfl | exact ext_opd _ | (focus (repeat (first | apply List.Mem.head | apply List.Mem.tail | apply List.mem_append_right)))); (intro hcc w hC; exact tame_below (awake_any (hT.own hC)) hC); (simp only [cS, cZ]; exact rfl))
          | ((with_reducible apply q_kn); exact rfl; (with_reducible apply t_eql gOpd); (apply EvC.now; exact rfl); (apply EvC.now; exact rfl); exact eqO_self _; (simp only [cS, cZ]; exact rfl))
          | ((with_reducible apply q_kn); exact rfl; (with_reducible apply t_cmp (op := .eql)); (apply EvC.now; exact rfl); (apply EvC.now; exact rfl); exact rfl; (simp only [cS, cZ]; exact rfl))
          | ((with_reducible apply q_kn); exact rfl; (with_reducible apply t_built); exact rfl; (with_reducible first | exact bOpd0 | exact bValN _ _ | exact bOpdM _ _); (simp only [cS, cZ]; exact rfl))
          | ((with_reducible apply q_kn); exact rfl; (first | ((with_reducible first | apply t_move | apply t_assign | apply t_one tIntV | apply t_one tStrE | apply t_part tOpd) <;> (first | (focus (repeat (first | (apply EvC.gv; exact rfl; (with_reducible first | exact Imp.refl _ | (apply Imp.left; exact Imp.refl _) | (apply Imp.right; exact Imp.refl _) | (apply Imp.left; apply Imp.left; exact Imp.refl _))) | (apply EvC.now; exact rfl) | (with_reducible first | apply EvAll.cons | exact EvAll.nil))); done) | exact rfl | exact ext_opd _ | (focus (repeat (first | apply List.Mem.head | apply List.Mem.tail | apply List.mem_append_right))))) | ((with_reducible apply t_pick); (apply EvC.now; exact rfl); (apply EvC.now; exact rfl))); (simp only [cS, cZ]; exact rfl))
          | ((with_reducible apply wpT1_skipL); exact rfl; (simp only [cS, cZ]; exact rfl)))
      refine wpT_nil ?_
      clear hR; intro w hR
      go_wp2_with fail
      go_ret
      exact ⟨ret_bool (by kernel_rfl), (hZ.own hR).below⟩

set_option maxRecDepth 100000 in
theorem lifted (os : Os) (started : os.Started) (H : Type) (enc : TypeId × Value → H) :
    ReturnsInHanded {} Tryd.checked os 4 .any (fun w args => (Rows.exprMemorySpec.pre enc Tryd.prog Tryd.f4 [] false w args ∧ laidMetH Tryd.prog laid2 w) ∧ sizedMet enc Tryd.prog Tryd.f4 (OpenSpec.ofChange Rows.exprMemorySpec) false w args)
      (Rows.exprMemorySpec.post enc Tryd.prog Tryd.f4 false true false false) := by
  refine returnsInHanded_of_change_and (C := Tryd.checked) (X := fun w _ => laidMetH Tryd.prog laid2 w) (fun _ _ _ hh h => h.of_heap hh) own started (by kernel_rfl) Tryd.func4
    (ChangeSpec.witness_shaped (enc := enc) (C := Tryd.checked) (os := os) (X := fun w _ => laidMetH Tryd.prog laid2 w) false (World.doorLaid Tryd.prog 400 os) #[.int .i64 0, .int .i64 0, .int .i64 0] 8 rfl (World.shaped_of_RefB (by kernel_rfl) (by kernel_rfl)) (by kernel_rfl) (by kernel_rfl) (by kernel_rfl) (door_met os _)) ?_
  intro W base args ds gs before hval0 hW _ _ hL _
  have hval : ∀ (j : Nat) t v, Tryd.f4.params[j]? = some t → args[j]? = some v → Value.okWide Tryd.prog W .any base t v := hval0
  have hW' := hW
  obtain ⟨p, q, hA0, hV, rfl, hfz, hnd⟩ := hW
  have hA : DataW.TrodAll enc Tryd.prog W 0 (fun _ => true) true Tryd.f4.params.toList args.toList ds p := hA0
  rw [Tryd.params4] at hA hval
  obtain ⟨v0, vs0, d0, ds0, p0, q0, hargs, rfl, rfl, h0, r0⟩ := trodAll_cons hA
  obtain ⟨v1, vs1, d1, ds1, p1, q1, rfl, rfl, rfl, h1, r1⟩ := trodAll_cons r0
  obtain ⟨v2, vs2, d2, ds2, p2, q2, rfl, rfl, rfl, h2, r2⟩ := trodAll_cons r1
  obtain ⟨rfl, rfl, rfl⟩ := trodAll_nil r2
  obtain rfl : args = #[v0, v1, v2] := by cases args; simp_all
  obtain ⟨rfl, rfl⟩ := trodVars_none hV
  obtain ⟨a0, rfl, rfl, rfl, w0⟩ := open_int Tryd.underlying3 (hval 0 3 v0 rfl rfl) h0
  obtain ⟨a1, rfl, rfl, rfl, w1⟩ := open_int Tryd.underlying3 (hval 1 3 v1 rfl rfl) h1
  obtain ⟨a2, rfl, rfl, rfl, w2⟩ := open_int Tryd.underlying3 (hval 2 3 v2 rfl rfl) h2
  clear hA0 hval0
  refine (walk a0 w0 a1 w1 a2 w2 W (of_laid hL)).mono fun e W' ⟨he, bel⟩ => ?_
  subst he
  exact ⟨_, rfl, _, _, _, [], _, [], hW', trodAll_mk1 (shut_bool Tryd.underlying4 _), (trodAll_cons_mk (shut_int Tryd.underlying3 w0) (trodAll_cons_mk (shut_int Tryd.underlying3 w1) (trodAll_cons_mk (shut_int Tryd.underlying3 w2) trodAll_mk0))), rfl, bel.frame _, fun h => by cases h⟩

theorem over : Rows.exprMemoryRow.holds Tryd.pinned (OpenSpec.ofChange Rows.exprMemorySpec) :=
  OpenClaim.holds_of_wide 4 Tryd.f4 rfl rfl rfl rfl rfl rfl rfl ⟨rfl, rfl, rfl, rfl, rfl⟩ rfl rfl rfl rfl rfl (by kernel_rfl) Tryd.func4 (by kernel_rfl)
    (of_decide_eq_true (by kernel_rfl)) (by unfold Func.isWrapper; first | (rw [if_pos (by decide +kernel)]; kernel_rfl) | (rw [if_neg (by decide +kernel)]; exact ⟨rfl, rfl⟩))
    (fun os started H enc _ => lifted os started H enc)

theorem proved : Rows.ExprMemoryCardSaid :=
  Claim7.holds_tied_plain_at .later [] [.data, .data, .data, .widerDeep, .data, .sentinel, .sentinel] true Rows.exprMemoryCard.stood.harness Rows.exprMemoryCard.stood.looks
    over (fun _ h => by cases h) (by kernel_rfl) (fun _ h => by cases h) exprMemory_row_tie rfl ⟨rfl, rfl⟩ (by kernel_rfl) rfl
    (fun f fn hf hfn => by
      obtain rfl : f = 4 := Option.some.inj ((show Tryd.prog.funcNamed "hansom/hansomlaw30.ExprMemory" = some 4 by kernel_rfl).symm.trans hf) |>.symm
      obtain rfl : fn = Tryd.f4 := (Option.some.inj (Tryd.func4.symm.trans hfn)).symm
      exact ⟨by kernel_rfl, fun j t ht => by
        rw [Tryd.params4] at ht
        have hm : t ∈ [3, 3, 3] := by simpa using Array.mem_of_getElem? ht
        have hall : ([3, 3, 3].all fun u => !Tryd.prog.wantsStandIn u) = true := by kernel_rfl
        exact (show Tryd.prog.wantsStandIn t = false by simpa using List.all_eq_true.1 hall t hm)⟩)
    (by kernel_rfl)
#print axioms proved
end Go.Proofs.YtckkgooabnlooaaDoor.exprMemory
