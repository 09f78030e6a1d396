









/- Names that are found again; 'awake' of hansomlaw17, over the contracts of package disp. No statement of the seat is proved here. -/
import Derived.Test.YtpngjefdgicmiaaDoorDisp
import Derived.Test.YtpngjefdgicmiaaDoorNear
import Derived.Deep.DeepCutAuto
import Derived.Deep.CutBlock
namespace Go.Proofs.YtpngjefdgicmiaaDoor
open Go.ChangeShapes Go.WideShapes Go.ChangeAt Go.RowKit
set_option linter.unusedVariables false
set_option linter.unusedSimpArgs false

/-- A number that a text was found to have: it is that name. -/
theorem find_back {ts : List Int} (ht : bytesOk ts) (h : findL (strOfNums ts).data.toList 1 [] namesL ≠ 0) : nameT (findL (strOfNums ts).data.toList 1 [] namesL : Nat) = ts := by
  obtain ⟨j, h1, h2, h3⟩ := find_word _ _ 1 [] (fun _ h => nomatch h) h
  rw [blanks_names] at h2
  rw [h1]
  have e : nameN ((1 + j : Nat) : Int) = (strOfNums ts).data.toList := by
    unfold nameN
    rw [show leB 1 ((1 + j : Nat) : Int) = true from decide_eq_true (by omega), show leB ((1 + j : Nat) : Int) 95 = true from decide_eq_true (by omega), show (((1 + j : Nat) : Int) - 1).toNat = j by omega]
    exact h3
  unfold nameT
  rw [e]
  exact nums_strOf ht
/-- A name is found again. -/
theorem find_of {n : Int} (h1 : 1 ≤ n) (h2 : n ≤ 95) : ((findL (strOfNums (nameT n)).data.toList 1 [] namesL : Nat) : Int) = n := by
  have e : (strOfNums (nameT n)).data.toList = nameL (n - 1).toNat := by
    rw [← nameT_str]
    show nameN n = _
    unfold nameN
    rw [show leB 1 n = true from decide_eq_true h1, show leB n 95 = true from decide_eq_true h2]; rfl
  rw [e, find_name (by omega)]
  omega
theorem name17_any (n : Int) (w : World) : Calls Tryd.prog 8 #[.int .i64 n] w fun e w' => e = .returned (.string (strOfNums (nameT n))) ∧ w = w' := by
  have := name_any n w
  rw [nameT_str] at this
  exact this
theorem text_nop : dispV nop = [88, 67, 72, 71, 32, 65, 88, 44, 65, 88] := by
  unfold dispV
  rw [nop_may]
  kernel_rfl
theorem lXCHG : (⟨#[88, 67, 72, 71, 32, 65, 88, 44, 65, 88]⟩ : ByteArray) = strOfNums [88, 67, 72, 71, 32, 65, 88, 44, 65, 88] := rfl
theorem lJG : (⟨#[74, 71]⟩ : ByteArray) = strOfNums [74, 71] := rfl
theorem find_std : findL (⟨#[83, 84, 68]⟩ : ByteArray).data.toList 1 [] namesL = 95 := by kernel_rfl
theorem name_jg : nameT 32 = [74, 71] := by kernel_rfl
theorem bNop : Built Tryd.prog 28 [(3, .int .u8 144)] (encI nop) := ⟨by kernel_rfl⟩
set_option maxRecDepth 100000 in
theorem awake17_any (w0 : World) (hT : Tabs w0) :
    Calls Tryd.prog 6 #[] w0 fun e w' => e = .returned (.bool true) ∧ Below w0.heap.size w0 w' := by
  have hR := Own.start w0
  have HT := Lib.hid text_nop
  have HF := Lib.hid find_std
  have HN := Lib.hid name_jg
  go_enter Tryd.func6, Tryd.ntmps6
  go_wp2_with (first
    | ((with_reducible apply wpList_built); exact rfl; exact rfl; exact bNop; (simp only [List.set_cons_succ, List.set_cons_zero]; exact rfl))
    | (go_at_call 17; refine (dtext_any nop nop_ok _ (hT.own hR)).mono ?_; rw [HT.out]; rintro e w' ⟨rfl, hb⟩; replace hR := hR.grow hb; clear hb)
    | (go_at_call 5; refine (dfind_any _ _ (hT.own hR) (by decide)).mono ?_; rw [HF.out]; rintro e w' ⟨rfl, hb⟩; replace hR := hR.grow hb; clear hb)
    | (go_at_call 7; refine (dname_any _ _ (hT.own hR) (by decide) (by decide)).mono ?_; rw [HN.out]; rintro e w' ⟨rfl, hb⟩; replace hR := hR.grow hb; clear hb)
    | ((with_reducible apply q_ls hR); exact rfl; (with_reducible apply t_strsame); (apply EvC.now; exact rfl); (first | exact lit_now lXCHG | exact lit_now lJG); (simp only [List.set_cons_succ, List.set_cons_zero]; exact rfl); clear hR; intro w hR))
  go_ret
  exact ⟨rfl, hR.below⟩
end Go.Proofs.YtpngjefdgicmiaaDoor
