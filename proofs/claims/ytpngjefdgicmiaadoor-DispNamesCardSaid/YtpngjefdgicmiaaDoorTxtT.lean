









/- The contract of hansomref17.Text. No statement of the seat is proved here. -/
import Derived.Test.YtpngjefdgicmiaaDoorTxtO
import Derived.Test.YtpngjefdgicmiaaDoorKinds
import Derived.Test.YtpngjefdgicmiaaDoorInstM
import Derived.Deep.DeepCutAuto
import Derived.Deep.CutBlock
namespace Go.Proofs.YtpngjefdgicmiaaDoor
open Go.ChangeShapes Go.WideShapes Go.ChangeAt Go.RowKit
set_option linter.unusedVariables false
set_option linter.unusedSimpArgs false

/-! ### What holds of every row of the table -/
def rowOps (r : Int × Int × Int × Bool × Bool) : Bool := decide (0 ≤ r.2.1) && decide (r.2.1 ≤ 24) && decide (0 ≤ r.2.2.1) && decide (r.2.2.1 ≤ 24)
theorem ops_all : allK (fun b => allK (fun k => rowOps (ofR b k)) 8) 256 = true := by kernel_rfl
theorem row_ops (i : InstZ) (hi : i.ok) : (0 ≤ i.row.a ∧ i.row.a ≤ 24) ∧ (0 ≤ i.row.b ∧ i.row.b ≤ 24) := by
  obtain ⟨b, hb⟩ := Int.eq_ofNat_of_zero_le hi.op.1
  have h1 := hi.op.2
  have hk := i.k7
  have := allK_at (allK_at ops_all b (by omega)) i.k (by omega)
  unfold InstZ.row
  rw [hb]
  unfold rowOps at this
  simp only [Bool.and_eq_true, decide_eq_true_eq] at this
  exact ⟨⟨this.1.1.1, this.1.1.2⟩, ⟨this.1.2, this.2⟩⟩
/-! ### What a text comes to -/
noncomputable def nameT (n : Int) : List Int := (nameN n).map fun b => (b.toNat : Int)
theorem nameT_str (n : Int) : (⟨(nameN n).toArray⟩ : ByteArray) = strOfNums (nameT n) := by
  have := strOf_nums ⟨(nameN n).toArray⟩
  rw [← this]; rfl
theorem nameT_ok (n : Int) : bytesOk (nameT n) := numsS_ok ⟨(nameN n).toArray⟩
theorem nameT_len (n : Int) : (nameT n).length ≤ 10000 := by
  unfold nameT
  rw [List.length_map]
  unfold nameN
  cases leB 1 n && leB n 95
  · simp
  · rw [cond_true]
    have h := sizes
    simp only [Bool.and_eq_true, decide_eq_true_eq] at h
    have h1 : namesL.length = namesS.size := rfl
    have h2 := takeW_len 32 (dropW 32 (n - 1).toNat namesL)
    have h3 := dropW_len 32 (n - 1).toNat namesL
    unfold nameL; omega
def lockT (i : InstZ) : List Int := bif i.lock then [76, 79, 67, 75, 32] else []
def rep1T (i : InstZ) : List Int := bif i.rep == 1 then [82, 69, 80, 78, 69, 32] else []
def rep2T (i : InstZ) : List Int := bif i.rep == 2 then [82, 69, 80, 32] else []
def opV (i : InstZ) (k : Int) : List Int := bif k == 24 then [51] else operV i k
def partA (i : InstZ) (k : Int) : List Int := bif k == 0 then [] else [32] ++ opV i k
def partB (i : InstZ) (k : Int) : List Int := bif k == 0 then [] else [44] ++ opV i k
noncomputable def headV (i : InstZ) : List Int := lockT i ++ rep1T i ++ rep2T i ++ nameT i.row.n
noncomputable def textV (i : InstZ) : List Int := headV i ++ partA i i.row.a ++ partB i i.row.b
theorem cond_len {c : Bool} {a b : List Int} {m : Nat} (ha : a.length ≤ m) (hb : b.length ≤ m) : (bif c then a else b).length ≤ m := by
  cases c
  · exact hb
  · exact ha
set_option maxHeartbeats 1000000 in
theorem operV_len (i : InstZ) (k : Int) : (operV i k).length ≤ 40 := by
  have h1 := segP_len i
  have h2 := placeV_len i
  have h3 := hexN_len 2 i.imm
  have h4 := hexN_len 4 i.imm
  have h5 := hexN_len 4 (65536 - i.imm)
  have h6 := hexN_len 4 i.sel
  have b1 := nbyteL i.rm
  have b2 := nregL i.rm
  have b3 := nbyteL i.reg
  have b4 := nregL i.reg
  have b5 := nsegL i.reg
  have b6 := nbyteL (i.op % 8)
  have b7 := nregL (i.op % 8)
  have b8 := nsegL (i.op / 8 % 4)
  have b9 := nlastL (k - 14)
  unfold operV farN
  repeat' (with_reducible apply cond_len)
  all_goals ((try simp only [List.length_append, List.length_cons, List.length_nil]); omega)
theorem opV_len (i : InstZ) (k : Int) : (opV i k).length ≤ 40 := by
  unfold opV
  cases k == 24
  · exact operV_len i k
  · simp
theorem partA_len (i : InstZ) (k : Int) : (partA i k).length ≤ 41 := by
  unfold partA
  have := opV_len i k
  cases k == 0
  · simp; omega
  · simp
theorem headV_len (i : InstZ) : (headV i).length ≤ 10030 := by
  have := nameT_len i.row.n
  unfold headV lockT rep1T rep2T
  cases i.lock <;> cases i.rep == 1 <;> cases i.rep == 2 <;> simp <;> omega
/-- How far the text has come: nothing of the operands, one, both. -/
def TextIs (w0 : World) (l : List RowT) (i : InstZ) (s n : Value) (wr : World) : Prop :=
  ((n = .int .i64 0 ∧ s = .string (strOfNums (headV i))) ∨ (n = .int .i64 1 ∧ s = .string (strOfNums (headV i ++ partA i i.row.a))) ∨ (n = .int .i64 2 ∧ s = .string (strOfNums (textV i)))) ∧ Own w0 wr l
theorem bInts2 (a b : Int) : BuiltS Tryd.prog 47 2 [(0, .int .i64 a), (1, .int .i64 b)] 3 #[.int .i64 a, .int .i64 b] := ⟨fun w => by simp [go_sem]⟩
theorem iIntO : (Tryd.prog.info? 3).map (·.size) = some 1 := by kernel_rfl
theorem l51 : (⟨#[51]⟩ : ByteArray) = strOfNums [51] := rfl
set_option maxHeartbeats 4000000 in
set_option maxRecDepth 100000 in
theorem text17_any (i : InstZ) (hi : i.ok) (w0 : World) :
    Calls Tryd.prog 18 #[.agg (encI i)] w0 fun e w' => e = .returned (.string (strOfNums (textV i))) ∧ Below w0.heap.size w0 w' := by
  have hR := Own.start w0
  obtain ⟨⟨ha0, ha1⟩, ⟨hb0, hb1⟩⟩ := row_ops i hi
  obtain ⟨hrep0, hrep1⟩ := hi.rep
  go_enter Tryd.func18, Tryd.ntmps18
  go_upto_region 2 with (first
    | ((with_reducible apply wpList_box hR); exact rfl; exact rfl; clear hR; intro g w hR; simp only [List.set_cons_succ, List.set_cons_zero])
    | (go_at_call 25; refine (rowR5_any i hi _).mono ?_; rintro e w' ⟨rfl, hb⟩; replace hR := hR.grow hb; clear hb)
    | ((with_reducible apply wpList_make hR zRow); exact rfl; clear hR; intro gr w hR; simp only [List.set_cons_succ, List.set_cons_zero])
    | ((with_reducible apply wpList_put hR tRow); exact rfl; exact rfl; exact rfl; (focus (repeat (first | apply List.Mem.head | apply List.Mem.tail | apply List.mem_append_right))); apply put_row; exact rfl; (simp [encR]); apply one_row; (focus (repeat (first | apply Upd.head | apply Upd.tail))); clear hR; intro w hR)
    | ((with_reducible apply q_ls hR); exact rfl; ((with_reducible first | apply t_addr (fInst _ (by decide)) | apply t_addr (fRow _ (by decide)) | apply t_one tInt | apply t_one tWord | apply t_one tByte | apply t_one tBool | apply t_part tInst | apply t_part tRow) <;> (first | (apply EvC.gv; exact rfl; (with_reducible first | exact Imp.refl _ | (apply Imp.left; exact Imp.refl _) | (apply Imp.right; exact Imp.refl _) | (apply Imp.left; apply Imp.left; exact Imp.refl _))) | (apply EvC.now; exact rfl) | exact rfl | (with_reducible exact EvAll.nil) | (focus (repeat (first | apply EvAll.cons | exact EvAll.nil | (apply EvC.gv; exact rfl; (with_reducible first | exact Imp.refl _ | (apply Imp.left; exact Imp.refl _) | (apply Imp.right; exact Imp.refl _) | (apply Imp.left; apply Imp.left; exact Imp.refl _))) | (apply EvC.now; exact rfl))); done) | (first | apply ext_inst | apply ext_row) | (focus (repeat (first | apply List.Mem.head | apply List.Mem.tail | apply List.mem_append_right))))); (simp only [List.set_cons_succ, List.set_cons_zero]; exact rfl); clear hR; intro w hR))
  go_upto_if 15 with (first
    | ((with_reducible apply q_ls hR); exact rfl; ((with_reducible first | apply t_addr (fInst _ (by decide)) | apply t_addr (fRow _ (by decide)) | apply t_one tInt | apply t_one tWord | apply t_one tByte | apply t_one tBool | apply t_part tInst | apply t_part tRow) <;> (first | (apply EvC.gv; exact rfl; (with_reducible first | exact Imp.refl _ | (apply Imp.left; exact Imp.refl _) | (apply Imp.right; exact Imp.refl _) | (apply Imp.left; apply Imp.left; exact Imp.refl _))) | (apply EvC.now; exact rfl) | exact rfl | (with_reducible exact EvAll.nil) | (focus (repeat (first | apply EvAll.cons | exact EvAll.nil | (apply EvC.gv; exact rfl; (with_reducible first | exact Imp.refl _ | (apply Imp.left; exact Imp.refl _) | (apply Imp.right; exact Imp.refl _) | (apply Imp.left; apply Imp.left; exact Imp.refl _))) | (apply EvC.now; exact rfl))); done) | (first | apply ext_inst | apply ext_row) | (focus (repeat (first | apply List.Mem.head | apply List.Mem.tail | apply List.mem_append_right))))); (simp only [List.set_cons_succ, List.set_cons_zero]; exact rfl); clear hR; intro w hR))
  go_cut [5] (fun s wr => s = .string (strOfNums (lockT i)) ∧ Own w0 wr [(gr, encR i.row, 39), (g, encI i, 28)])
  case first =>
    cases hl : i.lock
    · have HV := Lib.hid (show lockT i = [] by unfold lockT; rw [hl]; rfl)
      refine wp_cond_at (nm := false) rfl rfl (fun h => absurd h (by decide)) (fun _ => ?_)
      go_wp2_with fail
      go_meet
      exact ⟨by rw [HV.out]; rfl, hR⟩
    · have HV := Lib.hid (show lockT i = [76, 79, 67, 75, 32] by unfold lockT; rw [hl]; rfl)
      refine wp_cond_at (nm := true) rfl rfl (fun _ => ?_) (fun h => absurd h (by decide))
      go_wp2_with fail
      go_meet
      exact ⟨by rw [HV.out]; rfl, hR⟩
  case rest =>
  clear hR
  obtain ⟨rfl, hR⟩ := hcut
  have hl0 : (lockT i).length ≤ 5 := by unfold lockT; cases i.lock <;> simp
  go_upto_if 18 with (first
    | ((with_reducible apply q_ls hR); exact rfl; ((with_reducible first | apply t_addr (fInst _ (by decide)) | apply t_addr (fRow _ (by decide)) | apply t_one tInt | apply t_one tWord | apply t_one tByte | apply t_one tBool | apply t_part tInst | apply t_part tRow) <;> (first | (apply EvC.gv; exact rfl; (with_reducible first | exact Imp.refl _ | (apply Imp.left; exact Imp.refl _) | (apply Imp.right; exact Imp.refl _) | (apply Imp.left; apply Imp.left; exact Imp.refl _))) | (apply EvC.now; exact rfl) | exact rfl | (with_reducible exact EvAll.nil) | (focus (repeat (first | apply EvAll.cons | exact EvAll.nil | (apply EvC.gv; exact rfl; (with_reducible first | exact Imp.refl _ | (apply Imp.left; exact Imp.refl _) | (apply Imp.right; exact Imp.refl _) | (apply Imp.left; apply Imp.left; exact Imp.refl _))) | (apply EvC.now; exact rfl))); done) | (first | apply ext_inst | apply ext_row) | (focus (repeat (first | apply List.Mem.head | apply List.Mem.tail | apply List.mem_append_right))))); (simp only [List.set_cons_succ, List.set_cons_zero]; exact rfl); clear hR; intro w hR))
  go_cut [5] (fun s wr => s = .string (strOfNums (lockT i ++ rep1T i)) ∧ Own w0 wr [(gr, encR i.row, 39), (g, encI i, 28)])
  case first =>
    by_cases hr : i.rep = 1
    · have HV := Lib.hid (show rep1T i = [82, 69, 80, 78, 69, 32] by unfold rep1T; rw [hr]; rfl)
      refine wp_cond_at (nm := true) rfl (by simp [hr]) (fun _ => ?_) (fun h => absurd h (by decide))
      go_wp2_with (first
    | ((with_reducible apply q_ls hR); exact rfl; (with_reducible apply t_cat); (first | (with_reducible first | exact lit_now l32 | exact lit_now l43 | exact lit_now l44 | exact lit_now l45 | exact lit_now l58 | exact lit_now l91 | exact lit_now l93 | exact lit_now lBYTE | exact lit_now lWORD | exact lit_now lFAR | exact lit_now lLOCK | exact lit_now lREPNE | exact lit_now lREP) | (apply EvC.now; exact rfl)); (first | (with_reducible first | exact lit_now l32 | exact lit_now l43 | exact lit_now l44 | exact lit_now l45 | exact lit_now l58 | exact lit_now l91 | exact lit_now l93 | exact lit_now lBYTE | exact lit_now lWORD | exact lit_now lFAR | exact lit_now lLOCK | exact lit_now lREPNE | exact lit_now lREP) | (apply EvC.now; exact rfl)); (simp only [List.length_append, List.length_cons, List.length_nil]; omega); (simp only [List.set_cons_succ, List.set_cons_zero]; exact rfl); clear hR; intro w hR))
      go_meet
      exact ⟨by rw [HV.out], hR⟩
    · have HV := Lib.hid (show rep1T i = [] by unfold rep1T; rw [show (i.rep == 1) = false by simpa using hr]; rfl)
      refine wp_cond_at (nm := false) rfl (by simp [hr]) (fun h => absurd h (by decide)) (fun _ => ?_)
      go_wp2_with fail
      go_meet
      exact ⟨by rw [HV.out, List.append_nil], hR⟩
  case rest =>
  clear hR
  obtain ⟨rfl, hR⟩ := hcut
  have hl1 : (lockT i ++ rep1T i).length ≤ 11 := by rw [List.length_append]; unfold rep1T; cases i.rep == 1 <;> simp <;> omega
  go_upto_if 23 with (first
    | ((with_reducible apply q_ls hR); exact rfl; ((with_reducible first | apply t_addr (fInst _ (by decide)) | apply t_addr (fRow _ (by decide)) | apply t_one tInt | apply t_one tWord | apply t_one tByte | apply t_one tBool | apply t_part tInst | apply t_part tRow) <;> (first | (apply EvC.gv; exact rfl; (with_reducible first | exact Imp.refl _ | (apply Imp.left; exact Imp.refl _) | (apply Imp.right; exact Imp.refl _) | (apply Imp.left; apply Imp.left; exact Imp.refl _))) | (apply EvC.now; exact rfl) | exact rfl | (with_reducible exact EvAll.nil) | (focus (repeat (first | apply EvAll.cons | exact EvAll.nil | (apply EvC.gv; exact rfl; (with_reducible first | exact Imp.refl _ | (apply Imp.left; exact Imp.refl _) | (apply Imp.right; exact Imp.refl _) | (apply Imp.left; apply Imp.left; exact Imp.refl _))) | (apply EvC.now; exact rfl))); done) | (first | apply ext_inst | apply ext_row) | (focus (repeat (first | apply List.Mem.head | apply List.Mem.tail | apply List.mem_append_right))))); (simp only [List.set_cons_succ, List.set_cons_zero]; exact rfl); clear hR; intro w hR))
  go_cut [5] (fun s wr => s = .string (strOfNums (lockT i ++ rep1T i ++ rep2T i)) ∧ Own w0 wr [(gr, encR i.row, 39), (g, encI i, 28)])
  case first =>
    generalize hL : lockT i ++ rep1T i = L at *
    by_cases hr : i.rep = 2
    · have HV := Lib.hid (show rep2T i = [82, 69, 80, 32] by unfold rep2T; rw [hr]; rfl)
      refine wp_cond_at (nm := true) rfl (by simp [hr]) (fun _ => ?_) (fun h => absurd h (by decide))
      clear hL
      go_wp2_with (first
    | ((with_reducible apply q_ls hR); exact rfl; (with_reducible apply t_cat); (first | (with_reducible first | exact lit_now l32 | exact lit_now l43 | exact lit_now l44 | exact lit_now l45 | exact lit_now l58 | exact lit_now l91 | exact lit_now l93 | exact lit_now lBYTE | exact lit_now lWORD | exact lit_now lFAR | exact lit_now lLOCK | exact lit_now lREPNE | exact lit_now lREP) | (apply EvC.now; exact rfl)); (first | (with_reducible first | exact lit_now l32 | exact lit_now l43 | exact lit_now l44 | exact lit_now l45 | exact lit_now l58 | exact lit_now l91 | exact lit_now l93 | exact lit_now lBYTE | exact lit_now lWORD | exact lit_now lFAR | exact lit_now lLOCK | exact lit_now lREPNE | exact lit_now lREP) | (apply EvC.now; exact rfl)); (simp only [List.length_append, List.length_cons, List.length_nil]; omega); (simp only [List.set_cons_succ, List.set_cons_zero]; exact rfl); clear hR; intro w hR))
      go_meet
      exact ⟨by rw [HV.out], hR⟩
    · have HV := Lib.hid (show rep2T i = [] by unfold rep2T; rw [show (i.rep == 2) = false by simpa using hr]; rfl)
      refine wp_cond_at (nm := false) rfl (by simp [hr]) (fun h => absurd h (by decide)) (fun _ => ?_)
      clear hL
      go_wp2_with fail
      go_meet
      exact ⟨by rw [HV.out, List.append_nil], hR⟩
  case rest =>
  clear hR
  obtain ⟨rfl, hR⟩ := hcut
  have hl2 : (lockT i ++ rep1T i ++ rep2T i).length ≤ 15 := by rw [List.length_append]; unfold rep2T; cases i.rep == 2 <;> simp at hl1 ⊢ <;> omega
  have hln := nameT_len i.row.n
  have HH := Lib.hid (show lockT i ++ rep1T i ++ rep2T i ++ nameT i.row.n = headV i from rfl)
  have hlh := headV_len i
  have hlp := partA_len i i.row.a
  generalize lockT i ++ rep1T i ++ rep2T i = L at *
  go_upto_region 10 with (first
    | (go_at_call 8; refine (name_any _ _).mono ?_; rw [nameT_str]; rintro e w' ⟨rfl, rfl⟩)
    | ((with_reducible apply q_ls hR); exact rfl; (with_reducible apply t_catE); (apply EvC.now; exact rfl); (apply EvC.now; exact rfl); omega; exact HH.out; (simp only [List.set_cons_succ, List.set_cons_zero]; exact rfl); clear hR; intro w hR)
    | ((with_reducible apply q_ls hR); exact rfl; ((with_reducible first | apply t_addr (fInst _ (by decide)) | apply t_addr (fRow _ (by decide)) | apply t_one tInt | apply t_one tWord | apply t_one tByte | apply t_one tBool | apply t_part tInst | apply t_part tRow) <;> (first | (apply EvC.gv; exact rfl; (with_reducible first | exact Imp.refl _ | (apply Imp.left; exact Imp.refl _) | (apply Imp.right; exact Imp.refl _) | (apply Imp.left; apply Imp.left; exact Imp.refl _))) | (apply EvC.now; exact rfl) | exact rfl | (with_reducible exact EvAll.nil) | (focus (repeat (first | apply EvAll.cons | exact EvAll.nil | (apply EvC.gv; exact rfl; (with_reducible first | exact Imp.refl _ | (apply Imp.left; exact Imp.refl _) | (apply Imp.right; exact Imp.refl _) | (apply Imp.left; apply Imp.left; exact Imp.refl _))) | (apply EvC.now; exact rfl))); done) | (first | apply ext_inst | apply ext_row) | (focus (repeat (first | apply List.Mem.head | apply List.Mem.tail | apply List.mem_append_right))))); (simp only [List.set_cons_succ, List.set_cons_zero]; exact rfl); clear hR; intro w hR))
  clear HH hl0 hl1 hl2 hln
  go_wp2_with (first
    | ((with_reducible apply wpList_buildS hR); exact rfl; exact rfl; (exact bInts2 _ _); clear hR; intro gs w hR; simp only [List.set_cons_succ, List.set_cons_zero])
    | ((with_reducible apply q_ls hR); exact rfl; (with_reducible apply t_len Tryd.underlying47); (apply EvC.now; exact rfl); (simp only [List.set_cons_succ, List.set_cons_zero]; exact rfl); clear hR; intro w hR)
    | ((with_reducible apply q_ls hR); exact rfl; ((with_reducible first | apply t_addr (fInst _ (by decide)) | apply t_addr (fRow _ (by decide)) | apply t_one tInt | apply t_one tWord | apply t_one tByte | apply t_one tBool | apply t_part tInst | apply t_part tRow) <;> (first | (apply EvC.gv; exact rfl; (with_reducible first | exact Imp.refl _ | (apply Imp.left; exact Imp.refl _) | (apply Imp.right; exact Imp.refl _) | (apply Imp.left; apply Imp.left; exact Imp.refl _))) | (apply EvC.now; exact rfl) | exact rfl | (with_reducible exact EvAll.nil) | (focus (repeat (first | apply EvAll.cons | exact EvAll.nil | (apply EvC.gv; exact rfl; (with_reducible first | exact Imp.refl _ | (apply Imp.left; exact Imp.refl _) | (apply Imp.right; exact Imp.refl _) | (apply Imp.left; apply Imp.left; exact Imp.refl _))) | (apply EvC.now; exact rfl))); done) | (first | apply ext_inst | apply ext_row) | (focus (repeat (first | apply List.Mem.head | apply List.Mem.tail | apply List.mem_append_right))))); (simp only [List.set_cons_succ, List.set_cons_zero]; exact rfl); clear hR; intro w hR))
  go_loopw [5, 37] (fun s n wr => TextIs w0 [(gs, #[.int .i64 i.row.a, .int .i64 i.row.b], 3), (gr, encR i.row, 39), (g, encI i, 28)] i s n wr) (fun _ n _ => 2 - (intOf n).toNat)
  case atStart => exact ⟨.inl ⟨rfl, rfl⟩, hR⟩
  case round =>
    clear hR
    obtain ⟨⟨rfl, rfl⟩ | ⟨rfl, rfl⟩ | ⟨rfl, rfl⟩, hR⟩ := hrel
    · have hk0 := ha0
      have hk1 := ha1
      have hlo := operV_len i (i.row.a)
      go_upto_if 43 with (first
          | (go_at_call 35; refine (oper17_any i hi _ hk0 hk1 _).mono ?_; rintro e w' ⟨rfl, hb⟩; replace hR := hR.grow hb; clear hb)
          | ((with_reducible apply q_ls hR); exact rfl; (with_reducible apply t_sixG (k := 0) Tryd.underlying47 iIntO); (apply EvC.now; exact rfl); (apply EvC.now; exact rfl); (first | exact rfl | omega); (decide); (simp only [List.set_cons_succ, List.set_cons_zero]; exact rfl); clear hR; intro w hR)
          | ((with_reducible apply q_ls hR); exact rfl; (with_reducible apply t_cat); (first | (with_reducible first | exact lit_now l32 | exact lit_now l43 | exact lit_now l44 | exact lit_now l45 | exact lit_now l58 | exact lit_now l91 | exact lit_now l93 | exact lit_now lBYTE | exact lit_now lWORD | exact lit_now lFAR | exact lit_now lLOCK | exact lit_now lREPNE | exact lit_now lREP) | (apply EvC.now; exact rfl)); (first | (with_reducible first | exact lit_now l32 | exact lit_now l43 | exact lit_now l44 | exact lit_now l45 | exact lit_now l58 | exact lit_now l91 | exact lit_now l93 | exact lit_now lBYTE | exact lit_now lWORD | exact lit_now lFAR | exact lit_now lLOCK | exact lit_now lREPNE | exact lit_now lREP) | (apply EvC.now; exact rfl)); (simp only [List.length_append, List.length_cons, List.length_nil]; omega); (simp only [List.set_cons_succ, List.set_cons_zero]; exact rfl); clear hR; intro w hR)
          | ((with_reducible apply q_ls hR); exact rfl; ((with_reducible first | apply t_addr (fInst _ (by decide)) | apply t_addr (fRow _ (by decide)) | apply t_one tInt | apply t_one tWord | apply t_one tByte | apply t_one tBool | apply t_part tInst | apply t_part tRow) <;> (first | (apply EvC.gv; exact rfl; (with_reducible first | exact Imp.refl _ | (apply Imp.left; exact Imp.refl _) | (apply Imp.right; exact Imp.refl _) | (apply Imp.left; apply Imp.left; exact Imp.refl _))) | (apply EvC.now; exact rfl) | exact rfl | (with_reducible exact EvAll.nil) | (focus (repeat (first | apply EvAll.cons | exact EvAll.nil | (apply EvC.gv; exact rfl; (with_reducible first | exact Imp.refl _ | (apply Imp.left; exact Imp.refl _) | (apply Imp.right; exact Imp.refl _) | (apply Imp.left; apply Imp.left; exact Imp.refl _))) | (apply EvC.now; exact rfl))); done) | (first | apply ext_inst | apply ext_row) | (focus (repeat (first | apply List.Mem.head | apply List.Mem.tail | apply List.mem_append_right))))); (simp only [List.set_cons_succ, List.set_cons_zero]; exact rfl); clear hR; intro w hR))
      by_cases hz : i.row.a = 0
      · have HV := Lib.hid (show partA i (i.row.a) = [] by unfold partA; rw [hz]; rfl)
        refine wp_cond_at (nm := true) rfl (by simp [hz]) (fun _ => ?_) (fun h => absurd h (by decide))
        go_wp2_with fail
        exact ⟨⟨.inr (.inl ⟨rfl, by rw [HV.out]; first | done | simp⟩), hR⟩, by simp [intOf]⟩
      · refine wp_cond_at (nm := false) rfl (by simp [hz]) (fun h => absurd h (by decide)) (fun _ => ?_)
        go_upto_if 48 with (first
          | (go_at_call 35; refine (oper17_any i hi _ hk0 hk1 _).mono ?_; rintro e w' ⟨rfl, hb⟩; replace hR := hR.grow hb; clear hb)
          | ((with_reducible apply q_ls hR); exact rfl; (with_reducible apply t_sixG (k := 0) Tryd.underlying47 iIntO); (apply EvC.now; exact rfl); (apply EvC.now; exact rfl); (first | exact rfl | omega); (decide); (simp only [List.set_cons_succ, List.set_cons_zero]; exact rfl); clear hR; intro w hR)
          | ((with_reducible apply q_ls hR); exact rfl; (with_reducible apply t_cat); (first | (with_reducible first | exact lit_now l32 | exact lit_now l43 | exact lit_now l44 | exact lit_now l45 | exact lit_now l58 | exact lit_now l91 | exact lit_now l93 | exact lit_now lBYTE | exact lit_now lWORD | exact lit_now lFAR | exact lit_now lLOCK | exact lit_now lREPNE | exact lit_now lREP) | (apply EvC.now; exact rfl)); (first | (with_reducible first | exact lit_now l32 | exact lit_now l43 | exact lit_now l44 | exact lit_now l45 | exact lit_now l58 | exact lit_now l91 | exact lit_now l93 | exact lit_now lBYTE | exact lit_now lWORD | exact lit_now lFAR | exact lit_now lLOCK | exact lit_now lREPNE | exact lit_now lREP) | (apply EvC.now; exact rfl)); (simp only [List.length_append, List.length_cons, List.length_nil]; omega); (simp only [List.set_cons_succ, List.set_cons_zero]; exact rfl); clear hR; intro w hR)
          | ((with_reducible apply q_ls hR); exact rfl; ((with_reducible first | apply t_addr (fInst _ (by decide)) | apply t_addr (fRow _ (by decide)) | apply t_one tInt | apply t_one tWord | apply t_one tByte | apply t_one tBool | apply t_part tInst | apply t_part tRow) <;> (first | (apply EvC.gv; exact rfl; (with_reducible first | exact Imp.refl _ | (apply Imp.left; exact Imp.refl _) | (apply Imp.right; exact Imp.refl _) | (apply Imp.left; apply Imp.left; exact Imp.refl _))) | (apply EvC.now; exact rfl) | exact rfl | (with_reducible exact EvAll.nil) | (focus (repeat (first | apply EvAll.cons | exact EvAll.nil | (apply EvC.gv; exact rfl; (with_reducible first | exact Imp.refl _ | (apply Imp.left; exact Imp.refl _) | (apply Imp.right; exact Imp.refl _) | (apply Imp.left; apply Imp.left; exact Imp.refl _))) | (apply EvC.now; exact rfl))); done) | (first | apply ext_inst | apply ext_row) | (focus (repeat (first | apply List.Mem.head | apply List.Mem.tail | apply List.mem_append_right))))); (simp only [List.set_cons_succ, List.set_cons_zero]; exact rfl); clear hR; intro w hR))
        by_cases h24 : i.row.a = 24
        · have HV := Lib.hid (show partA i (i.row.a) = [32] ++ [51] by unfold partA opV; rw [h24]; rfl)
          refine wp_cond_at (nm := true) rfl (by simp [h24]) (fun _ => ?_) (fun h => absurd h (by decide))
          clear h24 hz
          go_wp2_with (first
          | ((with_reducible apply q_ls hR); exact rfl; (with_reducible apply t_cat); (with_reducible exact lit_now l32); (exact lit_tmp rfl l51); (simp); (simp only [List.set_cons_succ, List.set_cons_zero]; exact rfl); clear hR; intro w hR)
          | (go_at_call 35; refine (oper17_any i hi _ hk0 hk1 _).mono ?_; rintro e w' ⟨rfl, hb⟩; replace hR := hR.grow hb; clear hb)
          | ((with_reducible apply q_ls hR); exact rfl; (with_reducible apply t_sixG (k := 0) Tryd.underlying47 iIntO); (apply EvC.now; exact rfl); (apply EvC.now; exact rfl); (first | exact rfl | omega); (decide); (simp only [List.set_cons_succ, List.set_cons_zero]; exact rfl); clear hR; intro w hR)
          | ((with_reducible apply q_ls hR); exact rfl; (with_reducible apply t_cat); (first | (with_reducible first | exact lit_now l32 | exact lit_now l43 | exact lit_now l44 | exact lit_now l45 | exact lit_now l58 | exact lit_now l91 | exact lit_now l93 | exact lit_now lBYTE | exact lit_now lWORD | exact lit_now lFAR | exact lit_now lLOCK | exact lit_now lREPNE | exact lit_now lREP) | (apply EvC.now; exact rfl)); (first | (with_reducible first | exact lit_now l32 | exact lit_now l43 | exact lit_now l44 | exact lit_now l45 | exact lit_now l58 | exact lit_now l91 | exact lit_now l93 | exact lit_now lBYTE | exact lit_now lWORD | exact lit_now lFAR | exact lit_now lLOCK | exact lit_now lREPNE | exact lit_now lREP) | (apply EvC.now; exact rfl)); (simp only [List.length_append, List.length_cons, List.length_nil]; omega); (simp only [List.set_cons_succ, List.set_cons_zero]; exact rfl); clear hR; intro w hR)
          | ((with_reducible apply q_ls hR); exact rfl; ((with_reducible first | apply t_addr (fInst _ (by decide)) | apply t_addr (fRow _ (by decide)) | apply t_one tInt | apply t_one tWord | apply t_one tByte | apply t_one tBool | apply t_part tInst | apply t_part tRow) <;> (first | (apply EvC.gv; exact rfl; (with_reducible first | exact Imp.refl _ | (apply Imp.left; exact Imp.refl _) | (apply Imp.right; exact Imp.refl _) | (apply Imp.left; apply Imp.left; exact Imp.refl _))) | (apply EvC.now; exact rfl) | exact rfl | (with_reducible exact EvAll.nil) | (focus (repeat (first | apply EvAll.cons | exact EvAll.nil | (apply EvC.gv; exact rfl; (with_reducible first | exact Imp.refl _ | (apply Imp.left; exact Imp.refl _) | (apply Imp.right; exact Imp.refl _) | (apply Imp.left; apply Imp.left; exact Imp.refl _))) | (apply EvC.now; exact rfl))); done) | (first | apply ext_inst | apply ext_row) | (focus (repeat (first | apply List.Mem.head | apply List.Mem.tail | apply List.mem_append_right))))); (simp only [List.set_cons_succ, List.set_cons_zero]; exact rfl); clear hR; intro w hR))
          go_round
          case rel =>
            refine ⟨_, _, _, _, _, ?_, rfl, rfl, rfl, rfl, rfl⟩
            exact ⟨.inr (.inl ⟨rfl, by rw [HV.out]; first | done | simp⟩), hR.drop (by (focus (repeat (with_reducible first | exact List.Sublist.slnil | exact List.nil_sublist _ | exact List.Sublist.refl _ | exact List.sublist_append_right _ _ | apply List.Sublist.cons_cons | apply List.Sublist.cons | apply sub_right))))⟩
          case measure => simp [intOf]
        · have HV := Lib.hid (show partA i (i.row.a) = [32] ++ operV i (i.row.a) by unfold partA opV; rw [show (i.row.a == 0) = false by simpa using hz, show (i.row.a == 24) = false by simpa using h24]; rfl)
          refine wp_cond_at (nm := false) rfl (by simp [h24]) (fun h => absurd h (by decide)) (fun _ => ?_)
          generalize operV i (i.row.a) = ov at *
          clear h24 hz
          go_wp2_with (first
          | (go_at_call 35; refine (oper17_any i hi _ hk0 hk1 _).mono ?_; rintro e w' ⟨rfl, hb⟩; replace hR := hR.grow hb; clear hb)
          | ((with_reducible apply q_ls hR); exact rfl; (with_reducible apply t_sixG (k := 0) Tryd.underlying47 iIntO); (apply EvC.now; exact rfl); (apply EvC.now; exact rfl); (first | exact rfl | omega); (decide); (simp only [List.set_cons_succ, List.set_cons_zero]; exact rfl); clear hR; intro w hR)
          | ((with_reducible apply q_ls hR); exact rfl; (with_reducible apply t_cat); (first | (with_reducible first | exact lit_now l32 | exact lit_now l43 | exact lit_now l44 | exact lit_now l45 | exact lit_now l58 | exact lit_now l91 | exact lit_now l93 | exact lit_now lBYTE | exact lit_now lWORD | exact lit_now lFAR | exact lit_now lLOCK | exact lit_now lREPNE | exact lit_now lREP) | (apply EvC.now; exact rfl)); (first | (with_reducible first | exact lit_now l32 | exact lit_now l43 | exact lit_now l44 | exact lit_now l45 | exact lit_now l58 | exact lit_now l91 | exact lit_now l93 | exact lit_now lBYTE | exact lit_now lWORD | exact lit_now lFAR | exact lit_now lLOCK | exact lit_now lREPNE | exact lit_now lREP) | (apply EvC.now; exact rfl)); (simp only [List.length_append, List.length_cons, List.length_nil]; omega); (simp only [List.set_cons_succ, List.set_cons_zero]; exact rfl); clear hR; intro w hR)
          | ((with_reducible apply q_ls hR); exact rfl; ((with_reducible first | apply t_addr (fInst _ (by decide)) | apply t_addr (fRow _ (by decide)) | apply t_one tInt | apply t_one tWord | apply t_one tByte | apply t_one tBool | apply t_part tInst | apply t_part tRow) <;> (first | (apply EvC.gv; exact rfl; (with_reducible first | exact Imp.refl _ | (apply Imp.left; exact Imp.refl _) | (apply Imp.right; exact Imp.refl _) | (apply Imp.left; apply Imp.left; exact Imp.refl _))) | (apply EvC.now; exact rfl) | exact rfl | (with_reducible exact EvAll.nil) | (focus (repeat (first | apply EvAll.cons | exact EvAll.nil | (apply EvC.gv; exact rfl; (with_reducible first | exact Imp.refl _ | (apply Imp.left; exact Imp.refl _) | (apply Imp.right; exact Imp.refl _) | (apply Imp.left; apply Imp.left; exact Imp.refl _))) | (apply EvC.now; exact rfl))); done) | (first | apply ext_inst | apply ext_row) | (focus (repeat (first | apply List.Mem.head | apply List.Mem.tail | apply List.mem_append_right))))); (simp only [List.set_cons_succ, List.set_cons_zero]; exact rfl); clear hR; intro w hR))
          go_round
          case rel =>
            refine ⟨_, _, _, _, _, ?_, rfl, rfl, rfl, rfl, rfl⟩
            exact ⟨.inr (.inl ⟨rfl, by rw [HV.out]; first | done | simp⟩), hR.drop (by (focus (repeat (with_reducible first | exact List.Sublist.slnil | exact List.nil_sublist _ | exact List.Sublist.refl _ | exact List.sublist_append_right _ _ | apply List.Sublist.cons_cons | apply List.Sublist.cons | apply sub_right))))⟩
          case measure => simp [intOf]
    · have hk0 := hb0
      have hk1 := hb1
      have HT := Lib.hid (show textV i = headV i ++ partA i i.row.a ++ partB i i.row.b from rfl)
      have hlB : (headV i ++ partA i i.row.a).length ≤ 10071 := by rw [List.length_append]; omega
      generalize headV i ++ partA i i.row.a = B at *
      have hlo := operV_len i (i.row.b)
      go_upto_if 43 with (first
          | (go_at_call 35; refine (oper17_any i hi _ hk0 hk1 _).mono ?_; rintro e w' ⟨rfl, hb⟩; replace hR := hR.grow hb; clear hb)
          | ((with_reducible apply q_ls hR); exact rfl; (with_reducible apply t_sixG (k := 1) Tryd.underlying47 iIntO); (apply EvC.now; exact rfl); (apply EvC.now; exact rfl); (first | exact rfl | omega); (decide); (simp only [List.set_cons_succ, List.set_cons_zero]; exact rfl); clear hR; intro w hR)
          | ((with_reducible apply q_ls hR); exact rfl; (with_reducible apply t_cat); (first | (with_reducible first | exact lit_now l32 | exact lit_now l43 | exact lit_now l44 | exact lit_now l45 | exact lit_now l58 | exact lit_now l91 | exact lit_now l93 | exact lit_now lBYTE | exact lit_now lWORD | exact lit_now lFAR | exact lit_now lLOCK | exact lit_now lREPNE | exact lit_now lREP) | (apply EvC.now; exact rfl)); (first | (with_reducible first | exact lit_now l32 | exact lit_now l43 | exact lit_now l44 | exact lit_now l45 | exact lit_now l58 | exact lit_now l91 | exact lit_now l93 | exact lit_now lBYTE | exact lit_now lWORD | exact lit_now lFAR | exact lit_now lLOCK | exact lit_now lREPNE | exact lit_now lREP) | (apply EvC.now; exact rfl)); (simp only [List.length_append, List.length_cons, List.length_nil]; omega); (simp only [List.set_cons_succ, List.set_cons_zero]; exact rfl); clear hR; intro w hR)
          | ((with_reducible apply q_ls hR); exact rfl; ((with_reducible first | apply t_addr (fInst _ (by decide)) | apply t_addr (fRow _ (by decide)) | apply t_one tInt | apply t_one tWord | apply t_one tByte | apply t_one tBool | apply t_part tInst | apply t_part tRow) <;> (first | (apply EvC.gv; exact rfl; (with_reducible first | exact Imp.refl _ | (apply Imp.left; exact Imp.refl _) | (apply Imp.right; exact Imp.refl _) | (apply Imp.left; apply Imp.left; exact Imp.refl _))) | (apply EvC.now; exact rfl) | exact rfl | (with_reducible exact EvAll.nil) | (focus (repeat (first | apply EvAll.cons | exact EvAll.nil | (apply EvC.gv; exact rfl; (with_reducible first | exact Imp.refl _ | (apply Imp.left; exact Imp.refl _) | (apply Imp.right; exact Imp.refl _) | (apply Imp.left; apply Imp.left; exact Imp.refl _))) | (apply EvC.now; exact rfl))); done) | (first | apply ext_inst | apply ext_row) | (focus (repeat (first | apply List.Mem.head | apply List.Mem.tail | apply List.mem_append_right))))); (simp only [List.set_cons_succ, List.set_cons_zero]; exact rfl); clear hR; intro w hR))
      by_cases hz : i.row.b = 0
      · have HV := Lib.hid (show partB i (i.row.b) = [] by unfold partB; rw [hz]; rfl)
        refine wp_cond_at (nm := true) rfl (by simp [hz]) (fun _ => ?_) (fun h => absurd h (by decide))
        go_wp2_with fail
        exact ⟨⟨.inr (.inr ⟨rfl, by rw [HT.out, HV.out]; first | done | simp⟩), hR⟩, by simp [intOf]⟩
      · refine wp_cond_at (nm := false) rfl (by simp [hz]) (fun h => absurd h (by decide)) (fun _ => ?_)
        go_upto_if 48 with (first
          | (go_at_call 35; refine (oper17_any i hi _ hk0 hk1 _).mono ?_; rintro e w' ⟨rfl, hb⟩; replace hR := hR.grow hb; clear hb)
          | ((with_reducible apply q_ls hR); exact rfl; (with_reducible apply t_sixG (k := 1) Tryd.underlying47 iIntO); (apply EvC.now; exact rfl); (apply EvC.now; exact rfl); (first | exact rfl | omega); (decide); (simp only [List.set_cons_succ, List.set_cons_zero]; exact rfl); clear hR; intro w hR)
          | ((with_reducible apply q_ls hR); exact rfl; (with_reducible apply t_cat); (first | (with_reducible first | exact lit_now l32 | exact lit_now l43 | exact lit_now l44 | exact lit_now l45 | exact lit_now l58 | exact lit_now l91 | exact lit_now l93 | exact lit_now lBYTE | exact lit_now lWORD | exact lit_now lFAR | exact lit_now lLOCK | exact lit_now lREPNE | exact lit_now lREP) | (apply EvC.now; exact rfl)); (first | (with_reducible first | exact lit_now l32 | exact lit_now l43 | exact lit_now l44 | exact lit_now l45 | exact lit_now l58 | exact lit_now l91 | exact lit_now l93 | exact lit_now lBYTE | exact lit_now lWORD | exact lit_now lFAR | exact lit_now lLOCK | exact lit_now lREPNE | exact lit_now lREP) | (apply EvC.now; exact rfl)); (simp only [List.length_append, List.length_cons, List.length_nil]; omega); (simp only [List.set_cons_succ, List.set_cons_zero]; exact rfl); clear hR; intro w hR)
          | ((with_reducible apply q_ls hR); exact rfl; ((with_reducible first | apply t_addr (fInst _ (by decide)) | apply t_addr (fRow _ (by decide)) | apply t_one tInt | apply t_one tWord | apply t_one tByte | apply t_one tBool | apply t_part tInst | apply t_part tRow) <;> (first | (apply EvC.gv; exact rfl; (with_reducible first | exact Imp.refl _ | (apply Imp.left; exact Imp.refl _) | (apply Imp.right; exact Imp.refl _) | (apply Imp.left; apply Imp.left; exact Imp.refl _))) | (apply EvC.now; exact rfl) | exact rfl | (with_reducible exact EvAll.nil) | (focus (repeat (first | apply EvAll.cons | exact EvAll.nil | (apply EvC.gv; exact rfl; (with_reducible first | exact Imp.refl _ | (apply Imp.left; exact Imp.refl _) | (apply Imp.right; exact Imp.refl _) | (apply Imp.left; apply Imp.left; exact Imp.refl _))) | (apply EvC.now; exact rfl))); done) | (first | apply ext_inst | apply ext_row) | (focus (repeat (first | apply List.Mem.head | apply List.Mem.tail | apply List.mem_append_right))))); (simp only [List.set_cons_succ, List.set_cons_zero]; exact rfl); clear hR; intro w hR))
        by_cases h24 : i.row.b = 24
        · have HV := Lib.hid (show partB i (i.row.b) = [44] ++ [51] by unfold partB opV; rw [h24]; rfl)
          refine wp_cond_at (nm := true) rfl (by simp [h24]) (fun _ => ?_) (fun h => absurd h (by decide))
          clear h24 hz
          go_wp2_with (first
          | ((with_reducible apply q_ls hR); exact rfl; (with_reducible apply t_cat); (with_reducible exact lit_now l44); (exact lit_tmp rfl l51); (simp); (simp only [List.set_cons_succ, List.set_cons_zero]; exact rfl); clear hR; intro w hR)
          | (go_at_call 35; refine (oper17_any i hi _ hk0 hk1 _).mono ?_; rintro e w' ⟨rfl, hb⟩; replace hR := hR.grow hb; clear hb)
          | ((with_reducible apply q_ls hR); exact rfl; (with_reducible apply t_sixG (k := 1) Tryd.underlying47 iIntO); (apply EvC.now; exact rfl); (apply EvC.now; exact rfl); (first | exact rfl | omega); (decide); (simp only [List.set_cons_succ, List.set_cons_zero]; exact rfl); clear hR; intro w hR)
          | ((with_reducible apply q_ls hR); exact rfl; (with_reducible apply t_cat); (first | (with_reducible first | exact lit_now l32 | exact lit_now l43 | exact lit_now l44 | exact lit_now l45 | exact lit_now l58 | exact lit_now l91 | exact lit_now l93 | exact lit_now lBYTE | exact lit_now lWORD | exact lit_now lFAR | exact lit_now lLOCK | exact lit_now lREPNE | exact lit_now lREP) | (apply EvC.now; exact rfl)); (first | (with_reducible first | exact lit_now l32 | exact lit_now l43 | exact lit_now l44 | exact lit_now l45 | exact lit_now l58 | exact lit_now l91 | exact lit_now l93 | exact lit_now lBYTE | exact lit_now lWORD | exact lit_now lFAR | exact lit_now lLOCK | exact lit_now lREPNE | exact lit_now lREP) | (apply EvC.now; exact rfl)); (simp only [List.length_append, List.length_cons, List.length_nil]; omega); (simp only [List.set_cons_succ, List.set_cons_zero]; exact rfl); clear hR; intro w hR)
          | ((with_reducible apply q_ls hR); exact rfl; ((with_reducible first | apply t_addr (fInst _ (by decide)) | apply t_addr (fRow _ (by decide)) | apply t_one tInt | apply t_one tWord | apply t_one tByte | apply t_one tBool | apply t_part tInst | apply t_part tRow) <;> (first | (apply EvC.gv; exact rfl; (with_reducible first | exact Imp.refl _ | (apply Imp.left; exact Imp.refl _) | (apply Imp.right; exact Imp.refl _) | (apply Imp.left; apply Imp.left; exact Imp.refl _))) | (apply EvC.now; exact rfl) | exact rfl | (with_reducible exact EvAll.nil) | (focus (repeat (first | apply EvAll.cons | exact EvAll.nil | (apply EvC.gv; exact rfl; (with_reducible first | exact Imp.refl _ | (apply Imp.left; exact Imp.refl _) | (apply Imp.right; exact Imp.refl _) | (apply Imp.left; apply Imp.left; exact Imp.refl _))) | (apply EvC.now; exact rfl))); done) | (first | apply ext_inst | apply ext_row) | (focus (repeat (first | apply List.Mem.head | apply List.Mem.tail | apply List.mem_append_right))))); (simp only [List.set_cons_succ, List.set_cons_zero]; exact rfl); clear hR; intro w hR))
          go_round
          case rel =>
            refine ⟨_, _, _, _, _, ?_, rfl, rfl, rfl, rfl, rfl⟩
            exact ⟨.inr (.inr ⟨rfl, by rw [HT.out, HV.out]; first | done | simp⟩), hR.drop (by (focus (repeat (with_reducible first | exact List.Sublist.slnil | exact List.nil_sublist _ | exact List.Sublist.refl _ | exact List.sublist_append_right _ _ | apply List.Sublist.cons_cons | apply List.Sublist.cons | apply sub_right))))⟩
          case measure => simp [intOf]
        · have HV := Lib.hid (show partB i (i.row.b) = [44] ++ operV i (i.row.b) by unfold partB opV; rw [show (i.row.b == 0) = false by simpa using hz, show (i.row.b == 24) = false by simpa using h24]; rfl)
          refine wp_cond_at (nm := false) rfl (by simp [h24]) (fun h => absurd h (by decide)) (fun _ => ?_)
          generalize operV i (i.row.b) = ov at *
          clear h24 hz
          go_wp2_with (first
          | (go_at_call 35; refine (oper17_any i hi _ hk0 hk1 _).mono ?_; rintro e w' ⟨rfl, hb⟩; replace hR := hR.grow hb; clear hb)
          | ((with_reducible apply q_ls hR); exact rfl; (with_reducible apply t_sixG (k := 1) Tryd.underlying47 iIntO); (apply EvC.now; exact rfl); (apply EvC.now; exact rfl); (first | exact rfl | omega); (decide); (simp only [List.set_cons_succ, List.set_cons_zero]; exact rfl); clear hR; intro w hR)
          | ((with_reducible apply q_ls hR); exact rfl; (with_reducible apply t_cat); (first | (with_reducible first | exact lit_now l32 | exact lit_now l43 | exact lit_now l44 | exact lit_now l45 | exact lit_now l58 | exact lit_now l91 | exact lit_now l93 | exact lit_now lBYTE | exact lit_now lWORD | exact lit_now lFAR | exact lit_now lLOCK | exact lit_now lREPNE | exact lit_now lREP) | (apply EvC.now; exact rfl)); (first | (with_reducible first | exact lit_now l32 | exact lit_now l43 | exact lit_now l44 | exact lit_now l45 | exact lit_now l58 | exact lit_now l91 | exact lit_now l93 | exact lit_now lBYTE | exact lit_now lWORD | exact lit_now lFAR | exact lit_now lLOCK | exact lit_now lREPNE | exact lit_now lREP) | (apply EvC.now; exact rfl)); (simp only [List.length_append, List.length_cons, List.length_nil]; omega); (simp only [List.set_cons_succ, List.set_cons_zero]; exact rfl); clear hR; intro w hR)
          | ((with_reducible apply q_ls hR); exact rfl; ((with_reducible first | apply t_addr (fInst _ (by decide)) | apply t_addr (fRow _ (by decide)) | apply t_one tInt | apply t_one tWord | apply t_one tByte | apply t_one tBool | apply t_part tInst | apply t_part tRow) <;> (first | (apply EvC.gv; exact rfl; (with_reducible first | exact Imp.refl _ | (apply Imp.left; exact Imp.refl _) | (apply Imp.right; exact Imp.refl _) | (apply Imp.left; apply Imp.left; exact Imp.refl _))) | (apply EvC.now; exact rfl) | exact rfl | (with_reducible exact EvAll.nil) | (focus (repeat (first | apply EvAll.cons | exact EvAll.nil | (apply EvC.gv; exact rfl; (with_reducible first | exact Imp.refl _ | (apply Imp.left; exact Imp.refl _) | (apply Imp.right; exact Imp.refl _) | (apply Imp.left; apply Imp.left; exact Imp.refl _))) | (apply EvC.now; exact rfl))); done) | (first | apply ext_inst | apply ext_row) | (focus (repeat (first | apply List.Mem.head | apply List.Mem.tail | apply List.mem_append_right))))); (simp only [List.set_cons_succ, List.set_cons_zero]; exact rfl); clear hR; intro w hR))
          go_round
          case rel =>
            refine ⟨_, _, _, _, _, ?_, rfl, rfl, rfl, rfl, rfl⟩
            exact ⟨.inr (.inr ⟨rfl, by rw [HT.out, HV.out]; first | done | simp⟩), hR.drop (by (focus (repeat (with_reducible first | exact List.Sublist.slnil | exact List.nil_sublist _ | exact List.Sublist.refl _ | exact List.sublist_append_right _ _ | apply List.Sublist.cons_cons | apply List.Sublist.cons | apply sub_right))))⟩
          case measure => simp [intOf]
    · go_wp2_with fail
      go_ret
      exact ⟨rfl, hR.below⟩
end Go.Proofs.YtpngjefdgicmiaaDoor
