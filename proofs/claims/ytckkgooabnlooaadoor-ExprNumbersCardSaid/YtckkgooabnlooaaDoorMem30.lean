

















/- 'num' of hansomlaw30, and what registers in brackets with a number come to. No statement of the seat is proved here. -/
import Derived.Test.YtckkgooabnlooaaDoorReg30
namespace Go.Proofs.YtckkgooabnlooaaDoor
open Go.ChangeShapes Go.WideShapes Go.ChangeAt Go.RowKit
set_option linter.unusedVariables false
set_option linter.unusedSimpArgs false
set_option maxRecDepth 100000

theorem bB1 (x : Int) : BuiltS Tryd.prog 60 1 [(0, .int .u8 x)] 5 #[.int .u8 x] := ⟨fun w => by simp [go_sem]⟩
theorem tTextN : TextTy Tryd.prog 60 5 9 := ⟨Tryd.underlying60, Tryd.underlying5, Tryd.underlying9⟩
theorem src_row {w0 w : World} {l : List RowT} {g : Nat} {cur : Array Value} {e : TypeId} {ns : List Int} (hR : Own w0 w l) (hm : (g, cur, e) ∈ l) (hc : cur.toList = cellsB ns) (hb : bytesOk ns) (hl : ns.length ≤ 1000000) : SrcW w (.slice (some ⟨g, 0, none⟩) ns.length ns.length) ns := by
  have hs : cur.size = ns.length := by rw [← Array.length_toList, hc, cellsB_len]
  exact .ofRw hR hm ((RwIs.all (by rw [hs, Nat.mul_one]) hl).cast hc) hb
theorem num1L_any {n : Nat} (hn : n < 10) (w0 : World) : Calls Tryd.prog 11 #[.int .i64 n] w0 fun e w' => e = .returned (.string (strOfNums [48 + (n : Int)])) ∧ Below w0.heap.size w0 w' := by
  have hR := Own.start w0
  have HL := Lib.hid (show cmpB .lss (n : Int) 10 = some true from congrArg some (decide_eq_true (by omega)))
  have HW := Lib.hid (show IntKind.i64.wrap (48 + (n : Int)) = 48 + (n : Int) from IntWalk.i64_in _ (by omega))
  have HC := Lib.hid (show IntKind.u8.wrap (48 + (n : Int)) = 48 + (n : Int) from IntWalk.u8_in _ (by omega))
  have hok : bytesOk [48 + (n : Int)] := .cons (by omega) .nil
  clear hn
  go_enter Tryd.func11, Tryd.ntmps11
  go_wp2_with (first
    | ((with_reducible apply q_ls hR); exact rfl; (with_reducible apply t_cmp (op := .lss)); (apply EvC.now; exact rfl); (apply EvC.now; exact rfl); exact HL.out; (simp only [cS, cZ]; exact rfl); clear hR; intro w hR)
    | ((with_reducible apply q_ls hR); exact rfl; (with_reducible apply t_numE); (apply EvC.now; exact rfl); (apply EvC.now; exact rfl); exact rfl; exact HW.out; (simp only [cS, cZ]; exact rfl); clear hR; intro w hR)
    | ((with_reducible apply q_ls hR); exact rfl; (with_reducible apply t_conv Tryd.underlying3 Tryd.underlying5); (apply EvC.now; exact rfl); exact HC.out; (simp only [cS, cZ]; exact rfl); clear hR; intro w hR)
    | ((with_reducible apply wpList_buildS hR); exact rfl; exact rfl; (exact bB1 _); clear hR; intro gb w hR; simp only [cS, cZ])
    | ((with_reducible apply q_ls hR); exact rfl; (with_reducible apply t_strW tTextN); (apply EvC.now; exact rfl); (exact fun w hC => src_row hC (.head _) rfl hok (by simp)); (simp only [cS, cZ]; exact rfl); clear hR; intro w hR))
  go_ret
  exact ⟨rfl, hR.below⟩
def digsZ (n : Nat) : List Int := if n < 10 then [48 + (n : Int)] else [48 + ((n / 10 : Nat) : Int), 48 + ((n % 10 : Nat) : Int)]
set_option maxHeartbeats 400000 in
theorem numL_any {n : Nat} (hn : n < 100) (w0 : World) : Calls Tryd.prog 11 #[.int .i64 n] w0 fun e w' => e = .returned (.string (strOfNums (digsZ n))) ∧ Below w0.heap.size w0 w' := by
  by_cases h : n < 10
  · have e : digsZ n = [48 + (n : Int)] := if_pos h
    rw [e]; exact num1L_any h w0
  have e : digsZ n = [48 + ((n / 10 : Nat) : Int), 48 + ((n % 10 : Nat) : Int)] := if_neg h
  rw [e]; clear e
  have hR := Own.start w0
  have HL := Lib.hid (show cmpB .lss (n : Int) 10 = some false from congrArg some (decide_eq_false (by omega)))
  have HQ0 : IntKind.i64.wrap ((n : Int).tdiv 10) = ((n / 10 : Nat) : Int) := by rw [quo_in (by omega) (by omega) (by omega)]; omega
  have HM0 : (n : Int).tmod 10 = ((n % 10 : Nat) : Int) := by rw [rem_in (by omega)]; omega
  have h1 : n / 10 < 10 := by omega
  have h2 : n % 10 < 10 := by omega
  clear hn h
  generalize n / 10 = a at *
  generalize n % 10 = b at *
  have HQ := Lib.hid HQ0
  have HM := Lib.hid HM0
  clear HQ0 HM0
  go_enter Tryd.func11, Tryd.ntmps11
  go_wp2_with (first
    | ((with_reducible apply q_ls hR); exact rfl; (with_reducible apply t_cmp (op := .lss)); (apply EvC.now; exact rfl); (apply EvC.now; exact rfl); exact HL.out; (simp only [cS, cZ]; exact rfl); clear hR; intro w hR)
    | ((with_reducible apply q_ls hR); exact rfl; (with_reducible apply t_quo); (apply EvC.now; exact rfl); (apply EvC.now; exact rfl); (decide); exact HQ.out; (simp only [cS, cZ]; exact rfl); clear hR; intro w hR)
    | ((with_reducible apply q_ls hR); exact rfl; (with_reducible apply t_rem); (apply EvC.now; exact rfl); (apply EvC.now; exact rfl); (decide); exact HM.out; (simp only [cS, cZ]; exact rfl); clear hR; intro w hR)
    | (go_at_call 11; (with_reducible first | refine (num1L_any h1 _).mono ?_ | refine (num1L_any h2 _).mono ?_); rintro e w' ⟨rfl, hb⟩; replace hR := hR.grow hb; clear hb)
    | ((with_reducible apply q_ls hR); exact rfl; (with_reducible apply t_catE); (apply EvC.now; exact rfl); (apply EvC.now; exact rfl); (simp); exact rfl; (simp only [cS, cZ]; exact rfl); clear hR; intro w hR))
  go_ret
  exact ⟨rfl, hR.below⟩
theorem digs_z {n : Nat} (hn : n < 100) : Digs (digsZ n) n := by
  unfold digsZ
  by_cases h : n < 10
  · rw [if_pos h]
    exact digs_one ⟨by omega, by omega⟩ (by omega)
  · rw [if_neg h]
    have := Digs.two (a := 48 + ((n / 10 : Nat) : Int)) (b := 48 + ((n % 10 : Nat) : Int)) ⟨by omega, by omega⟩ ⟨by omega, by omega⟩
    have e : ((48 + ((n / 10 : Nat) : Int) - 48) * 10 + (48 + ((n % 10 : Nat) : Int) - 48)).toNat = n := by omega
    rw [e] at this
    exact this
/-! ### The five names -/
def memN : List (List Int) := [[66, 88], [66, 80], [83, 73], [68, 73], [65, 88]]
def tkK (k : Nat) : List TokZ := [tkS 91, tkN k, tkS 93]
def rmOf (x y : Nat) : Int :=
  if x = 4 ∨ y = 4 then -1 else if y = 5 then [7, 6, 4, 5].getD x (-1) else
  if x < 2 ∧ 2 ≤ y then 2 * x + y - 2 else if y < 2 ∧ 2 ≤ x then 2 * y + x - 2 else -1
def memO (r : Int) (k : Nat) : OpdZ × Int := if r < 0 then (zeroOpd, 3) else (⟨5, 0, r, ⟨k, 0, 0, 0, 0, true⟩, 0, 0, false⟩, 0)
def memT1 (x k : Nat) : List TokZ := [tkS 91, tkA (memN.getD x []), tkS 93] ++ tkK k
def memT2 (x y k : Nat) : List TokZ := [tkS 91, tkA (memN.getD x []), tkS 43, tkA (memN.getD y []), tkS 93] ++ tkK k
def memT3 (x y k : Nat) : List TokZ := [tkS 91, tkA (memN.getD x []), tkS 93, tkS 91, tkA (memN.getD y []), tkS 93] ++ tkK k
def chkT (l : List TokZ) (r : OpdZ × Int) : Bool := gotB (parseM zTab 40 (.ex 1) (startS l)) && decide (opdR (parseM zTab 40 (.ex 1) (startS l)) = r)
theorem chk_of {l : List TokZ} {r : OpdZ × Int} (h : chkT l r = true) : (parseM zTab 40 (.ex 1) (startS l)).got ∧ opdR (parseM zTab 40 (.ex 1) (startS l)) = r := by
  have h2 := Bool.and_eq_true_iff.1 h
  exact ⟨got_of h2.1, of_decide_eq_true h2.2⟩
theorem mem_2 : ((List.range 5).all fun x => (List.range 5).all fun y => (List.range 64).all fun k => chkT (memT2 x y k) (memO (rmOf x y) k)) = true := by kernel_rfl
theorem mem_3 : ((List.range 5).all fun x => (List.range 5).all fun y => (List.range 64).all fun k => chkT (memT3 x y k) (memO (rmOf x y) k)) = true := by kernel_rfl
theorem mem_1 : ((List.range 5).all fun x => (List.range 64).all fun k => chkT (memT1 x k) (memO (rmOf x 5) k)) = true := by kernel_rfl
end Go.Proofs.YtckkgooabnlooaaDoor
