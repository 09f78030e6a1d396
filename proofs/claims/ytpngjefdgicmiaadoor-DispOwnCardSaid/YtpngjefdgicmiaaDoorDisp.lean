

















/- The contracts of disp.ahead, operands, Text. No statement of the seat is proved here. -/
import Derived.Test.YtpngjefdgicmiaaDoorDispQ
import Derived.Deep.DeepCutAuto
import Derived.Deep.CutBlock
namespace Go.Proofs.YtpngjefdgicmiaaDoor
open Go.ChangeShapes Go.WideShapes Go.ChangeAt Go.RowKit
set_option linter.unusedVariables false
set_option linter.unusedSimpArgs false

noncomputable def dispV (i : InstZ) : List Int := bif mayR i then textV i else [63]
/-! ### What holds of an instruction that may be -/
def needB (k : Int) : Bool := k == 1 || k == 2 || k == 19 || k == 20
def rowSec (r : Int × Int × Int × Bool × Bool) : Bool := (!(needB r.2.1 || needB r.2.2.1) || r.2.2.2.1) && (r.2.2.1 == 0 || r.2.1 != 0)
theorem sec_all : allK (fun b => allK (fun k => rowSec (ofR b k)) 8) 256 = true := by kernel_rfl
theorem row_sec (i : InstZ) (hi : i.ok) : ((needB i.row.a || needB i.row.b) = true → i.row.m = true) ∧ (i.row.b ≠ 0 → i.row.a ≠ 0) := by
  obtain ⟨b, hb⟩ := Int.eq_ofNat_of_zero_le hi.op.1
  have h1 := hi.op.2
  have hk := i.k7
  have := allK_at (allK_at sec_all b (by omega)) i.k (by omega)
  unfold InstZ.row
  rw [hb]
  unfold rowSec at this
  generalize ofR b i.k = r at *
  obtain ⟨n, x, y, m, o⟩ := r
  simp only [Bool.and_eq_true, Bool.or_eq_true, Bool.not_eq_true', beq_iff_eq, bne_iff_ne] at this ⊢
  obtain ⟨h2, h3⟩ := this
  refine ⟨fun h => ?_, fun h => ?_⟩
  · rcases h2 with h2 | h2
    · rw [Bool.or_eq_false_iff] at h2
      rcases h with h | h
      · rw [h2.1] at h; exact absurd h (by decide)
      · rw [h2.2] at h; exact absurd h (by decide)
    · exact h2
  · rcases h3 with h3 | h3
    · exact absurd h3 h
    · exact h3
theorem mem_of (i : InstZ) (hi : i.ok) (h : mayR i = true) {k : Int} (hk : k = i.row.a ∨ k = i.row.b) (hm : memK k) : MemF i k := by
  obtain ⟨hn, _, _⟩ := near_of i h
  have hs := (row_sec i hi).1
  have hsec : k ≠ 12 → k ≠ 13 → i.row.m = true := by
    intro h1 h2
    apply hs
    have : needB k = true := by
      rcases hm with rfl | rfl | rfl | rfl | rfl | rfl
      · rfl
      · rfl
      · exact absurd rfl h1
      · exact absurd rfl h2
      · rfl
      · rfl
    rcases hk with rfl | rfl
    · rw [this]; rfl
    · rw [this, Bool.or_true]
  refine ⟨hm, fun h1 h2 => ?_, fun h3 h4 => ?_⟩
  · have := hn.mid (hsec h1 h2)
    exact ⟨this.1, this.2.2⟩
  · have hmm := hsec (by rcases h3 with rfl | rfl <;> decide) (by rcases h3 with rfl | rfl <;> decide)
    unfold mayR at h
    rw [hmm, cond_true] at h
    have h5 : bad5R i = true := by
      unfold bad5R
      rw [h4]
      rcases hk with rfl | rfl <;> rcases h3 with h3 | h3 <;> rw [h3] <;> simp
    rw [h5] at h
    cases bad1R i <;> cases bad2R i <;> cases bad4R i <;> simp at h
def rowNm (r : Int × Int × Int × Bool × Bool) : Bool := decide (0 ≤ r.1) && decide (r.1 ≤ 95)
theorem nm_all : allK (fun b => allK (fun k => rowNm (ofR b k)) 8) 256 = true := by kernel_rfl
theorem row_n (i : InstZ) (hi : i.ok) : -9223372036854775808 ≤ i.row.n ∧ i.row.n ≤ 9223372036854775807 := by
  obtain ⟨b, hb⟩ := Int.eq_ofNat_of_zero_le hi.op.1
  have h1 := hi.op.2
  have hk := i.k7
  have := allK_at (allK_at nm_all b (by omega)) i.k (by omega)
  unfold InstZ.row
  rw [hb]
  unfold rowNm at this
  simp only [Bool.and_eq_true, decide_eq_true_eq] at this
  show -9223372036854775808 ≤ (ofR b i.k).1 ∧ (ofR b i.k).1 ≤ 9223372036854775807
  omega
/-! ### Prefixes -/
theorem rep_at (i : InstZ) (h0 : 0 ≤ i.rep) (h1 : i.rep ≤ 2) : (cellsU repB).toList[i.rep.toNat]? = some (.string (strOfNums (rep1T i ++ rep2T i))) := by
  unfold rep1T rep2T
  rcases (by omega : i.rep = 0 ∨ i.rep = 1 ∨ i.rep = 2) with h | h | h <;> rw [h] <;> rfl
theorem reps_len (i : InstZ) : (rep1T i ++ rep2T i).length ≤ 20 := by
  unfold rep1T rep2T
  cases i.rep == 1 <;> cases i.rep == 2 <;> simp
set_option maxRecDepth 100000 in
theorem ahead_any (i : InstZ) (hi : i.ok) (h0 : 0 ≤ i.rep) (h1 : i.rep ≤ 2) (w0 : World) (hT : Tabs w0) :
    Calls Tryd.prog 33 #[.agg (encI i)] w0 fun e w' => e = .returned (.string (strOfNums (lockT i ++ rep1T i ++ rep2T i))) ∧ Below w0.heap.size w0 w' := by
  have hR := Own.start w0
  obtain ⟨t1, fr1, hT1⟩ := hT.rep
  have HB := Lib.hid (rep_at i h0 h1)
  have hl := reps_len i
  have HV := Lib.hid (show lockT i ++ rep1T i ++ rep2T i = lockT i ++ (rep1T i ++ rep2T i) from List.append_assoc _ _ _)
  generalize rep1T i ++ rep2T i = u at *
  rw [HV.out]
  cases hk : i.lock
  · have HK := Lib.hid (show lockT i = [] by unfold lockT; rw [hk]; rfl)
    rw [HK.out]
    go_enter Tryd.func33, Tryd.ntmps33
    go_upto_if 4 with (first
    | ((with_reducible apply wpList_box hR); exact rfl; exact rfl; clear hR; intro g w hR; simp only [List.set_cons_succ, List.set_cons_zero])
    | ((with_reducible apply q_ls hR); exact rfl; ((with_reducible first | apply t_addr (fInst _ (by decide)) | apply t_addr (fRow _ (by decide)) | apply t_one tInt | apply t_one tWord | apply t_one tByte | apply t_one tBool | apply t_part tInst | apply t_part tRow) <;> (first | (apply EvC.gv; exact rfl; (with_reducible first | exact Imp.refl _ | (apply Imp.left; exact Imp.refl _) | (apply Imp.right; exact Imp.refl _) | (apply Imp.left; apply Imp.left; exact Imp.refl _))) | (apply EvC.now; exact rfl) | exact rfl | (with_reducible exact EvAll.nil) | (focus (repeat (first | apply EvAll.cons | exact EvAll.nil | (apply EvC.gv; exact rfl; (with_reducible first | exact Imp.refl _ | (apply Imp.left; exact Imp.refl _) | (apply Imp.right; exact Imp.refl _) | (apply Imp.left; apply Imp.left; exact Imp.refl _))) | (apply EvC.now; exact rfl))); done) | (first | apply ext_inst | apply ext_row) | (focus (repeat (first | apply List.Mem.head | apply List.Mem.tail | apply List.mem_append_right))))); (simp only [List.set_cons_succ, List.set_cons_zero]; exact rfl); clear hR; intro w hR))
    refine wp_cond_at (nm := false) rfl hk (fun h => absurd h (by decide)) (fun _ => ?_)
    go_wp2_with (first
    | ((with_reducible apply q_ls hR); exact rfl; (with_reducible apply t_gix Tryd.underlying56 iStrF); (apply EvC.now; exact rfl); (constructor <;> omega); (simp only [List.set_cons_succ, List.set_cons_zero]; exact rfl); clear hR; intro w hR)
    | ((with_reducible apply q_ls hR); exact rfl; (with_reducible apply t_old tStrF hT1); (apply EvC.now; exact rfl); exact HB.out; (simp only [List.set_cons_succ, List.set_cons_zero]; exact rfl); clear hR; intro w hR)
    | ((with_reducible apply q_ls hR); exact rfl; (with_reducible apply t_cat); (first | (with_reducible first | exact lit_now l32 | exact lit_now l43 | exact lit_now l44 | exact lit_now l45 | exact lit_now l58 | exact lit_now l91 | exact lit_now l93 | exact lit_now lBYTE | exact lit_now lWORD | exact lit_now lFAR | exact lit_now lLOCK | exact lit_now lREPNE | exact lit_now lREP) | (apply EvC.now; exact rfl)); (first | (with_reducible first | exact lit_now l32 | exact lit_now l43 | exact lit_now l44 | exact lit_now l45 | exact lit_now l58 | exact lit_now l91 | exact lit_now l93 | exact lit_now lBYTE | exact lit_now lWORD | exact lit_now lFAR | exact lit_now lLOCK | exact lit_now lREPNE | exact lit_now lREP) | (apply EvC.now; exact rfl)); ((try simp only [List.length_append, List.length_cons, List.length_nil]); omega); (simp only [List.set_cons_succ, List.set_cons_zero]; exact rfl); clear hR; intro w hR)
    | ((with_reducible apply q_ls hR); exact rfl; ((with_reducible first | apply t_addr (fInst _ (by decide)) | apply t_addr (fRow _ (by decide)) | apply t_one tInt | apply t_one tWord | apply t_one tByte | apply t_one tBool | apply t_part tInst | apply t_part tRow) <;> (first | (apply EvC.gv; exact rfl; (with_reducible first | exact Imp.refl _ | (apply Imp.left; exact Imp.refl _) | (apply Imp.right; exact Imp.refl _) | (apply Imp.left; apply Imp.left; exact Imp.refl _))) | (apply EvC.now; exact rfl) | exact rfl | (with_reducible exact EvAll.nil) | (focus (repeat (first | apply EvAll.cons | exact EvAll.nil | (apply EvC.gv; exact rfl; (with_reducible first | exact Imp.refl _ | (apply Imp.left; exact Imp.refl _) | (apply Imp.right; exact Imp.refl _) | (apply Imp.left; apply Imp.left; exact Imp.refl _))) | (apply EvC.now; exact rfl))); done) | (first | apply ext_inst | apply ext_row) | (focus (repeat (first | apply List.Mem.head | apply List.Mem.tail | apply List.mem_append_right))))); (simp only [List.set_cons_succ, List.set_cons_zero]; exact rfl); clear hR; intro w hR))
    go_ret
    exact ⟨rfl, hR.below⟩
  · have HK := Lib.hid (show lockT i = [76, 79, 67, 75, 32] by unfold lockT; rw [hk]; rfl)
    rw [HK.out]
    go_enter Tryd.func33, Tryd.ntmps33
    go_upto_if 4 with (first
    | ((with_reducible apply wpList_box hR); exact rfl; exact rfl; clear hR; intro g w hR; simp only [List.set_cons_succ, List.set_cons_zero])
    | ((with_reducible apply q_ls hR); exact rfl; ((with_reducible first | apply t_addr (fInst _ (by decide)) | apply t_addr (fRow _ (by decide)) | apply t_one tInt | apply t_one tWord | apply t_one tByte | apply t_one tBool | apply t_part tInst | apply t_part tRow) <;> (first | (apply EvC.gv; exact rfl; (with_reducible first | exact Imp.refl _ | (apply Imp.left; exact Imp.refl _) | (apply Imp.right; exact Imp.refl _) | (apply Imp.left; apply Imp.left; exact Imp.refl _))) | (apply EvC.now; exact rfl) | exact rfl | (with_reducible exact EvAll.nil) | (focus (repeat (first | apply EvAll.cons | exact EvAll.nil | (apply EvC.gv; exact rfl; (with_reducible first | exact Imp.refl _ | (apply Imp.left; exact Imp.refl _) | (apply Imp.right; exact Imp.refl _) | (apply Imp.left; apply Imp.left; exact Imp.refl _))) | (apply EvC.now; exact rfl))); done) | (first | apply ext_inst | apply ext_row) | (focus (repeat (first | apply List.Mem.head | apply List.Mem.tail | apply List.mem_append_right))))); (simp only [List.set_cons_succ, List.set_cons_zero]; exact rfl); clear hR; intro w hR))
    refine wp_cond_at (nm := true) rfl hk (fun _ => ?_) (fun h => absurd h (by decide))
    go_wp2_with (first
    | ((with_reducible apply q_ls hR); exact rfl; (with_reducible apply t_gix Tryd.underlying56 iStrF); (apply EvC.now; exact rfl); (constructor <;> omega); (simp only [List.set_cons_succ, List.set_cons_zero]; exact rfl); clear hR; intro w hR)
    | ((with_reducible apply q_ls hR); exact rfl; (with_reducible apply t_old tStrF hT1); (apply EvC.now; exact rfl); exact HB.out; (simp only [List.set_cons_succ, List.set_cons_zero]; exact rfl); clear hR; intro w hR)
    | ((with_reducible apply q_ls hR); exact rfl; (with_reducible apply t_cat); (first | (with_reducible first | exact lit_now l32 | exact lit_now l43 | exact lit_now l44 | exact lit_now l45 | exact lit_now l58 | exact lit_now l91 | exact lit_now l93 | exact lit_now lBYTE | exact lit_now lWORD | exact lit_now lFAR | exact lit_now lLOCK | exact lit_now lREPNE | exact lit_now lREP) | (apply EvC.now; exact rfl)); (first | (with_reducible first | exact lit_now l32 | exact lit_now l43 | exact lit_now l44 | exact lit_now l45 | exact lit_now l58 | exact lit_now l91 | exact lit_now l93 | exact lit_now lBYTE | exact lit_now lWORD | exact lit_now lFAR | exact lit_now lLOCK | exact lit_now lREPNE | exact lit_now lREP) | (apply EvC.now; exact rfl)); ((try simp only [List.length_append, List.length_cons, List.length_nil]); omega); (simp only [List.set_cons_succ, List.set_cons_zero]; exact rfl); clear hR; intro w hR)
    | ((with_reducible apply q_ls hR); exact rfl; ((with_reducible first | apply t_addr (fInst _ (by decide)) | apply t_addr (fRow _ (by decide)) | apply t_one tInt | apply t_one tWord | apply t_one tByte | apply t_one tBool | apply t_part tInst | apply t_part tRow) <;> (first | (apply EvC.gv; exact rfl; (with_reducible first | exact Imp.refl _ | (apply Imp.left; exact Imp.refl _) | (apply Imp.right; exact Imp.refl _) | (apply Imp.left; apply Imp.left; exact Imp.refl _))) | (apply EvC.now; exact rfl) | exact rfl | (with_reducible exact EvAll.nil) | (focus (repeat (first | apply EvAll.cons | exact EvAll.nil | (apply EvC.gv; exact rfl; (with_reducible first | exact Imp.refl _ | (apply Imp.left; exact Imp.refl _) | (apply Imp.right; exact Imp.refl _) | (apply Imp.left; apply Imp.left; exact Imp.refl _))) | (apply EvC.now; exact rfl))); done) | (first | apply ext_inst | apply ext_row) | (focus (repeat (first | apply List.Mem.head | apply List.Mem.tail | apply List.mem_append_right))))); (simp only [List.set_cons_succ, List.set_cons_zero]; exact rfl); clear hR; intro w hR))
    go_ret
    exact ⟨ret_nums rfl, hR.below⟩
/-! ### Both operands -/
theorem bTwoI (a b : Int) : Built Tryd.prog 57 [(0, .int .i64 a), (1, .int .i64 b)] #[.int .i64 a, .int .i64 b] := ⟨by kernel_rfl⟩
theorem partB_len (i : InstZ) (k : Int) : (partB i k).length ≤ 41 := by
  unfold partB
  have := opV_len i k
  cases k == 0
  · simp; omega
  · simp
def OpsIs (w0 : World) (l : List RowT) (i : InstZ) (s m n : Value) (wr : World) : Prop :=
  ((n = .int .i64 0 ∧ s = .string (strOfNums []) ∧ m = .string (strOfNums [32])) ∨
    (n = .int .i64 1 ∧ s = .string (strOfNums (partA i i.row.a)) ∧ m = .string (strOfNums (bif i.row.a == 0 then [32] else [44]))) ∨
    (n = .int .i64 2 ∧ s = .string (strOfNums (partA i i.row.a ++ partB i i.row.b)))) ∧ Own w0 wr l
set_option maxHeartbeats 1000000 in
set_option maxRecDepth 100000 in
theorem dopers_any (i : InstZ) (hi : i.ok) (hm : mayR i = true) (w0 : World) (hT : Tabs w0) :
    Calls Tryd.prog 34 #[.agg (encI i), .agg (encR i.row)] w0 fun e w' => e = .returned (.string (strOfNums (partA i i.row.a ++ partB i i.row.b))) ∧ Below w0.heap.size w0 w' := by
  have hR := Own.start w0
  obtain ⟨⟨ha0, ha1⟩, ⟨hb0, hb1⟩⟩ := row_ops i hi
  have hab := (row_sec i hi).2
  have HMA := Lib.hid fun hk => mem_of i hi hm (k := i.row.a) (.inl rfl) hk
  have HMB := Lib.hid fun hk => mem_of i hi hm (k := i.row.b) (.inr rfl) hk
  have hlA := partA_len i i.row.a
  clear hm
  go_enter Tryd.func34, Tryd.ntmps34
  go_upto_region 1 with (first
    | ((with_reducible apply wpList_box hR); exact rfl; exact rfl; clear hR; intro g1 w hR; simp only [List.set_cons_succ, List.set_cons_zero])
    | ((with_reducible apply q_ls hR); exact rfl; ((with_reducible first | apply t_addr (fInst _ (by decide)) | apply t_addr (fRow _ (by decide)) | apply t_one tInt | apply t_one tWord | apply t_one tByte | apply t_one tBool | apply t_part tInst | apply t_part tRow) <;> (first | (apply EvC.gv; exact rfl; (with_reducible first | exact Imp.refl _ | (apply Imp.left; exact Imp.refl _) | (apply Imp.right; exact Imp.refl _) | (apply Imp.left; apply Imp.left; exact Imp.refl _))) | (apply EvC.now; exact rfl) | exact rfl | (with_reducible exact EvAll.nil) | (focus (repeat (first | apply EvAll.cons | exact EvAll.nil | (apply EvC.gv; exact rfl; (with_reducible first | exact Imp.refl _ | (apply Imp.left; exact Imp.refl _) | (apply Imp.right; exact Imp.refl _) | (apply Imp.left; apply Imp.left; exact Imp.refl _))) | (apply EvC.now; exact rfl))); done) | (first | apply ext_inst | apply ext_row) | (focus (repeat (first | apply List.Mem.head | apply List.Mem.tail | apply List.mem_append_right))))); (simp only [List.set_cons_succ, List.set_cons_zero]; exact rfl); clear hR; intro w hR))
  go_upto_region 2 with fail
  go_wp2_with (first
    | ((with_reducible apply wpList_built); exact rfl; exact rfl; exact bTwoI _ _; (simp only [List.set_cons_succ, List.set_cons_zero]; exact rfl))
    | ((with_reducible apply q_ls hR); exact rfl; ((with_reducible first | apply t_addr (fInst _ (by decide)) | apply t_addr (fRow _ (by decide)) | apply t_one tInt | apply t_one tWord | apply t_one tByte | apply t_one tBool | apply t_part tInst | apply t_part tRow) <;> (first | (apply EvC.gv; exact rfl; (with_reducible first | exact Imp.refl _ | (apply Imp.left; exact Imp.refl _) | (apply Imp.right; exact Imp.refl _) | (apply Imp.left; apply Imp.left; exact Imp.refl _))) | (apply EvC.now; exact rfl) | exact rfl | (with_reducible exact EvAll.nil) | (focus (repeat (first | apply EvAll.cons | exact EvAll.nil | (apply EvC.gv; exact rfl; (with_reducible first | exact Imp.refl _ | (apply Imp.left; exact Imp.refl _) | (apply Imp.right; exact Imp.refl _) | (apply Imp.left; apply Imp.left; exact Imp.refl _))) | (apply EvC.now; exact rfl))); done) | (first | apply ext_inst | apply ext_row) | (focus (repeat (first | apply List.Mem.head | apply List.Mem.tail | apply List.mem_append_right))))); (simp only [List.set_cons_succ, List.set_cons_zero]; exact rfl); clear hR; intro w hR))
  rename_i g0 _
  go_loopw [5, 6, 14] (OpsIs w0 [(g1, encR i.row, 39), (_, encI i, 28)] i) (fun _ _ n _ => 2 - (intOf n).toNat)
  case atStart => exact ⟨.inl ⟨rfl, rfl, rfl⟩, hR⟩
  case round =>
    clear hR
    obtain ⟨⟨rfl, rfl, rfl⟩ | ⟨rfl, rfl, rfl⟩ | ⟨rfl, rfl⟩, hR⟩ := hrel
    · by_cases hz : i.row.a = 0
      · have HV := Lib.hid (show partA i i.row.a = [] by unfold partA; rw [hz]; rfl)
        have HW := Lib.hid (show (bif i.row.a == 0 then [32] else [44] : List Int) = [32] by rw [hz]; rfl)
        go_upto_if 18 with (first
    | ((with_reducible apply wpList_index Tryd.underlying57 tInt); exact rfl; exact rfl; exact rfl; exact rfl; exact rfl; (simp only [List.set_cons_succ, List.set_cons_zero]; exact rfl)))
        refine wp_cond_at (nm := false) rfl (by simp [hz]) (fun h => absurd h (by decide)) (fun _ => ?_)
        clear hz
        go_wp2_with fail
        go_round
        case rel =>
          exact ⟨.inr (.inl ⟨rfl, by rw [HV.out], by rw [HW.out]⟩), hR⟩
        case measure => simp [intOf]
      · have HV := Lib.hid (show partA i i.row.a = [32] ++ opV i i.row.a by unfold partA; rw [show (i.row.a == 0) = false by simpa using hz]; rfl)
        have HW := Lib.hid (show (bif i.row.a == 0 then [32] else [44] : List Int) = [44] by rw [show (i.row.a == 0) = false by simpa using hz]; rfl)
        have hl := opV_len i i.row.a
        have hk1 : 1 ≤ i.row.a := by omega
        go_upto_if 18 with (first
    | ((with_reducible apply wpList_index Tryd.underlying57 tInt); exact rfl; exact rfl; exact rfl; exact rfl; exact rfl; (simp only [List.set_cons_succ, List.set_cons_zero]; exact rfl)))
        refine wp_cond_at (nm := true) rfl (by simp [hz]) (fun _ => ?_) (fun h => absurd h (by decide))
        clear hz
        have HC := Lib.hid fun w hTw => operand_any i hi i.row.a hk1 ha1 HMA.out w hTw
        generalize opV i i.row.a = ov at *
        go_wp2_with (first
    | (go_at_call 45; refine (HC.out _ (hT.own hR)).mono ?_; rintro e w' ⟨rfl, hb⟩; replace hR := hR.grow hb; clear hb)
    | ((with_reducible apply q_ls hR); exact rfl; (with_reducible apply t_cat); (first | (with_reducible first | exact lit_now l32 | exact lit_now l43 | exact lit_now l44 | exact lit_now l45 | exact lit_now l58 | exact lit_now l91 | exact lit_now l93 | exact lit_now lBYTE | exact lit_now lWORD | exact lit_now lFAR | exact lit_now lLOCK | exact lit_now lREPNE | exact lit_now lREP) | (apply EvC.now; exact rfl)); (first | (with_reducible first | exact lit_now l32 | exact lit_now l43 | exact lit_now l44 | exact lit_now l45 | exact lit_now l58 | exact lit_now l91 | exact lit_now l93 | exact lit_now lBYTE | exact lit_now lWORD | exact lit_now lFAR | exact lit_now lLOCK | exact lit_now lREPNE | exact lit_now lREP) | (apply EvC.now; exact rfl)); ((try simp only [List.length_append, List.length_cons, List.length_nil]); omega); (simp only [List.set_cons_succ, List.set_cons_zero]; exact rfl); clear hR; intro w hR)
    | ((with_reducible apply q_ls hR); exact rfl; ((with_reducible first | apply t_addr (fInst _ (by decide)) | apply t_addr (fRow _ (by decide)) | apply t_one tInt | apply t_one tWord | apply t_one tByte | apply t_one tBool | apply t_part tInst | apply t_part tRow) <;> (first | (apply EvC.gv; exact rfl; (with_reducible first | exact Imp.refl _ | (apply Imp.left; exact Imp.refl _) | (apply Imp.right; exact Imp.refl _) | (apply Imp.left; apply Imp.left; exact Imp.refl _))) | (apply EvC.now; exact rfl) | exact rfl | (with_reducible exact EvAll.nil) | (focus (repeat (first | apply EvAll.cons | exact EvAll.nil | (apply EvC.gv; exact rfl; (with_reducible first | exact Imp.refl _ | (apply Imp.left; exact Imp.refl _) | (apply Imp.right; exact Imp.refl _) | (apply Imp.left; apply Imp.left; exact Imp.refl _))) | (apply EvC.now; exact rfl))); done) | (first | apply ext_inst | apply ext_row) | (focus (repeat (first | apply List.Mem.head | apply List.Mem.tail | apply List.mem_append_right))))); (simp only [List.set_cons_succ, List.set_cons_zero]; exact rfl); clear hR; intro w hR))
        go_round
        case rel =>
          exact ⟨.inr (.inl ⟨rfl, by rw [HV.out]; first | done | simp, by rw [HW.out]; rfl⟩), hR⟩
        case measure => simp [intOf]
    · by_cases hz : i.row.b = 0
      · have HV := Lib.hid (show partB i i.row.b = [] by unfold partB; rw [hz]; rfl)
        go_upto_if 18 with (first
    | ((with_reducible apply wpList_index Tryd.underlying57 tInt); exact rfl; exact rfl; exact rfl; exact rfl; exact rfl; (simp only [List.set_cons_succ, List.set_cons_zero]; exact rfl)))
        refine wp_cond_at (nm := false) rfl (by simp [hz]) (fun h => absurd h (by decide)) (fun _ => ?_)
        clear hz hab
        go_wp2_with fail
        go_round
        case rel =>
          exact ⟨.inr (.inr ⟨rfl, by rw [HV.out, List.append_nil]⟩), hR⟩
        case measure => simp [intOf]
      · have HV := Lib.hid (show partB i i.row.b = [44] ++ opV i i.row.b by unfold partB; rw [show (i.row.b == 0) = false by simpa using hz]; rfl)
        have hza := hab hz
        have HW := Lib.hid (show (bif i.row.a == 0 then [32] else [44] : List Int) = [44] by rw [show (i.row.a == 0) = false by simpa using hza]; rfl)
        rw [HW.out]
        have hl := opV_len i i.row.b
        have hk1 : 1 ≤ i.row.b := by omega
        go_upto_if 18 with (first
    | ((with_reducible apply wpList_index Tryd.underlying57 tInt); exact rfl; exact rfl; exact rfl; exact rfl; exact rfl; (simp only [List.set_cons_succ, List.set_cons_zero]; exact rfl)))
        refine wp_cond_at (nm := true) rfl (by simp [hz]) (fun _ => ?_) (fun h => absurd h (by decide))
        clear hz hza hab
        have HC := Lib.hid fun w hTw => operand_any i hi i.row.b hk1 hb1 HMB.out w hTw
        generalize opV i i.row.b = ov at *
        go_wp2_with (first
    | (go_at_call 45; refine (HC.out _ (hT.own hR)).mono ?_; rintro e w' ⟨rfl, hb⟩; replace hR := hR.grow hb; clear hb)
    | ((with_reducible apply q_ls hR); exact rfl; (with_reducible apply t_cat); (first | (with_reducible first | exact lit_now l32 | exact lit_now l43 | exact lit_now l44 | exact lit_now l45 | exact lit_now l58 | exact lit_now l91 | exact lit_now l93 | exact lit_now lBYTE | exact lit_now lWORD | exact lit_now lFAR | exact lit_now lLOCK | exact lit_now lREPNE | exact lit_now lREP) | (apply EvC.now; exact rfl)); (first | (with_reducible first | exact lit_now l32 | exact lit_now l43 | exact lit_now l44 | exact lit_now l45 | exact lit_now l58 | exact lit_now l91 | exact lit_now l93 | exact lit_now lBYTE | exact lit_now lWORD | exact lit_now lFAR | exact lit_now lLOCK | exact lit_now lREPNE | exact lit_now lREP) | (apply EvC.now; exact rfl)); ((try simp only [List.length_append, List.length_cons, List.length_nil]); omega); (simp only [List.set_cons_succ, List.set_cons_zero]; exact rfl); clear hR; intro w hR)
    | ((with_reducible apply q_ls hR); exact rfl; ((with_reducible first | apply t_addr (fInst _ (by decide)) | apply t_addr (fRow _ (by decide)) | apply t_one tInt | apply t_one tWord | apply t_one tByte | apply t_one tBool | apply t_part tInst | apply t_part tRow) <;> (first | (apply EvC.gv; exact rfl; (with_reducible first | exact Imp.refl _ | (apply Imp.left; exact Imp.refl _) | (apply Imp.right; exact Imp.refl _) | (apply Imp.left; apply Imp.left; exact Imp.refl _))) | (apply EvC.now; exact rfl) | exact rfl | (with_reducible exact EvAll.nil) | (focus (repeat (first | apply EvAll.cons | exact EvAll.nil | (apply EvC.gv; exact rfl; (with_reducible first | exact Imp.refl _ | (apply Imp.left; exact Imp.refl _) | (apply Imp.right; exact Imp.refl _) | (apply Imp.left; apply Imp.left; exact Imp.refl _))) | (apply EvC.now; exact rfl))); done) | (first | apply ext_inst | apply ext_row) | (focus (repeat (first | apply List.Mem.head | apply List.Mem.tail | apply List.mem_append_right))))); (simp only [List.set_cons_succ, List.set_cons_zero]; exact rfl); clear hR; intro w hR))
        go_round
        case rel =>
          exact ⟨.inr (.inr ⟨rfl, by rw [HV.out]; first | done | simp⟩), hR⟩
        case measure => simp [intOf]
    · go_wp2_with fail
      go_ret
      exact ⟨rfl, hR.below⟩
/-! ### The text -/
set_option maxHeartbeats 1000000 in
set_option maxRecDepth 100000 in
theorem dtext_any (i : InstZ) (hi : i.ok) (w0 : World) (hT : Tabs w0) :
    Calls Tryd.prog 17 #[.agg (encI i)] w0 fun e w' => e = .returned (.string (strOfNums (dispV i))) ∧ Below w0.heap.size w0 w' := by
  have hR := Own.start w0
  have hms := may_same i hi
  rcases Bool.eq_false_or_eq_true (mayR i) with hm | hm
  · have HV := Lib.hid (show dispV i = textV i by unfold dispV; rw [hm]; rfl)
    rw [hm] at hms
    have HM := Lib.hid hms
    obtain ⟨hn, hr0, _⟩ := near_of i hm
    have hr2 := hn.rep
    have hlh := headV_len i
    have hln := nameT_len i.row.n
    have hlA := partA_len i i.row.a
    have hlB := partB_len i i.row.b
    have hn0 : -9223372036854775808 ≤ i.row.n ∧ i.row.n ≤ 9223372036854775807 := row_n i hi
    have HO := Lib.hid fun w hTw => dopers_any i hi hm w hTw
    have HA := Lib.hid fun w hTw => ahead_any i hi hr0 hr2 w hTw
    have HN := Lib.hid fun w hTw => dname_any i.row.n w hTw hn0.1 hn0.2
    have HT2 := Lib.hid (show textV i = lockT i ++ rep1T i ++ rep2T i ++ nameT i.row.n ++ (partA i i.row.a ++ partB i i.row.b) by unfold textV headV; rw [List.append_assoc])
    have hl1 : (lockT i ++ rep1T i ++ rep2T i).length ≤ 30 := by
      have := reps_len i
      rw [List.append_assoc, List.length_append]
      unfold lockT
      cases i.lock <;> simp at this ⊢ <;> omega
    have hl2 : (partA i i.row.a ++ partB i i.row.b).length ≤ 82 := by rw [List.length_append]; omega
    rw [HV.out, HT2.out]
    clear hms hn hm hlh hlA hlB hn0
    generalize lockT i ++ rep1T i ++ rep2T i = aT at *
    generalize partA i i.row.a ++ partB i i.row.b = oT at *
    go_enter Tryd.func17, Tryd.ntmps17
    go_upto_region 4 with (first
    | ((with_reducible apply wpList_box hR); exact rfl; exact rfl; clear hR; intro g w hR; simp only [List.set_cons_succ, List.set_cons_zero])
    | (go_at_call 31; refine (may_any i hi _).mono ?_; rw [HM.out]; rintro e w' ⟨rfl, hb⟩; replace hR := hR.grow hb; clear hb)
    | (go_at_call 32; refine (rowC_any i hi _).mono ?_; rintro e w' ⟨rfl, hb⟩; replace hR := hR.grow hb; clear hb)
    | ((with_reducible apply wpList_make hR zRow); exact rfl; clear hR; intro gr w hR; simp only [List.set_cons_succ, List.set_cons_zero])
    | ((with_reducible apply wpList_put hR tRow); exact rfl; exact rfl; exact rfl; (focus (repeat (first | apply List.Mem.head | apply List.Mem.tail | apply List.mem_append_right))); apply put_row; exact rfl; (simp [encR]); apply one_row; (focus (repeat (first | apply Upd.head | apply Upd.tail))); clear hR; intro w hR)
    | ((with_reducible apply q_ls hR); exact rfl; ((with_reducible first | apply t_addr (fInst _ (by decide)) | apply t_addr (fRow _ (by decide)) | apply t_one tInt | apply t_one tWord | apply t_one tByte | apply t_one tBool | apply t_part tInst | apply t_part tRow) <;> (first | (apply EvC.gv; exact rfl; (with_reducible first | exact Imp.refl _ | (apply Imp.left; exact Imp.refl _) | (apply Imp.right; exact Imp.refl _) | (apply Imp.left; apply Imp.left; exact Imp.refl _))) | (apply EvC.now; exact rfl) | exact rfl | (with_reducible exact EvAll.nil) | (focus (repeat (first | apply EvAll.cons | exact EvAll.nil | (apply EvC.gv; exact rfl; (with_reducible first | exact Imp.refl _ | (apply Imp.left; exact Imp.refl _) | (apply Imp.right; exact Imp.refl _) | (apply Imp.left; apply Imp.left; exact Imp.refl _))) | (apply EvC.now; exact rfl))); done) | (first | apply ext_inst | apply ext_row) | (focus (repeat (first | apply List.Mem.head | apply List.Mem.tail | apply List.mem_append_right))))); (simp only [List.set_cons_succ, List.set_cons_zero]; exact rfl); clear hR; intro w hR))
    refine wp_region_rows hR [0, 1, 2, 3, 4, 5, 6, 7, 8, 9, 10] 0 (by kernel_rfl) (by kernel_rfl) (by kernel_rfl) rfl ?_
    clear hR; intro hR
    repeat (refine wpT_step rfl ?_; first
    | ((first | (with_reducible apply q_pl) | ((with_reducible apply q_gd); (first | (apply GdBy.gt; exact rfl; exact rfl) | (apply GdBy.gf; exact rfl; exact rfl) | (apply GdBy.t; exact rfl; exact rfl) | (apply GdBy.f; exact rfl; exact rfl)))); (first | ((with_reducible first | apply t_move | apply t_assign | apply t_and | apply t_or | apply t_cmp | apply t_not | apply t_addr (fInst _ (by decide)) | apply t_addr (fRow _ (by decide)) | apply t_one tInt | apply t_one tWord | apply t_one tByte | apply t_one tBool | apply t_part tInst | apply t_part tRow) <;> (first | (apply EvC.gv; exact rfl; (with_reducible first | exact Imp.refl _ | (apply Imp.left; exact Imp.refl _) | (apply Imp.right; exact Imp.refl _) | (apply Imp.left; apply Imp.left; exact Imp.refl _))) | (apply EvC.now; exact rfl) | exact rfl | (with_reducible exact EvAll.nil) | (focus (repeat (first | apply EvAll.cons | exact EvAll.nil | (apply EvC.gv; exact rfl; (with_reducible first | exact Imp.refl _ | (apply Imp.left; exact Imp.refl _) | (apply Imp.right; exact Imp.refl _) | (apply Imp.left; apply Imp.left; exact Imp.refl _))) | (apply EvC.now; exact rfl))); done) | (first | apply ext_inst | apply ext_row) | (focus (repeat (first | apply List.Mem.head | apply List.Mem.tail | apply List.mem_append_right)))))); (simp only [List.set_cons_succ, List.set_cons_zero]; exact rfl))
    | ((first | (with_reducible apply q_pl) | ((with_reducible apply q_gd); (first | (apply GdBy.gt; exact rfl; exact rfl) | (apply GdBy.gf; exact rfl; exact rfl) | (apply GdBy.t; exact rfl; exact rfl) | (apply GdBy.f; exact rfl; exact rfl)))); (with_reducible apply t_call Tryd.call33); (first | (apply EvC.gv; exact rfl; (with_reducible first | exact Imp.refl _ | (apply Imp.left; exact Imp.refl _) | (apply Imp.right; exact Imp.refl _) | (apply Imp.left; apply Imp.left; exact Imp.refl _))) | (apply EvC.now; exact rfl) | exact rfl | (with_reducible exact EvAll.nil) | (focus (repeat (first | apply EvAll.cons | exact EvAll.nil | (apply EvC.gv; exact rfl; (with_reducible first | exact Imp.refl _ | (apply Imp.left; exact Imp.refl _) | (apply Imp.right; exact Imp.refl _) | (apply Imp.left; apply Imp.left; exact Imp.refl _))) | (apply EvC.now; exact rfl))); done) | (first | apply ext_inst | apply ext_row) | (focus (repeat (first | apply List.Mem.head | apply List.Mem.tail | apply List.mem_append_right)))); (intro hcc w hC; exact tame_below (HA.out _ (hT.own hC)) hC); (simp only [List.set_cons_succ, List.set_cons_zero]; exact rfl))
    | ((first | (with_reducible apply q_pl) | ((with_reducible apply q_gd); (first | (apply GdBy.gt; exact rfl; exact rfl) | (apply GdBy.gf; exact rfl; exact rfl) | (apply GdBy.t; exact rfl; exact rfl) | (apply GdBy.f; exact rfl; exact rfl)))); (with_reducible apply t_call Tryd.call7); (first | (apply EvC.gv; exact rfl; (with_reducible first | exact Imp.refl _ | (apply Imp.left; exact Imp.refl _) | (apply Imp.right; exact Imp.refl _) | (apply Imp.left; apply Imp.left; exact Imp.refl _))) | (apply EvC.now; exact rfl) | exact rfl | (with_reducible exact EvAll.nil) | (focus (repeat (first | apply EvAll.cons | exact EvAll.nil | (apply EvC.gv; exact rfl; (with_reducible first | exact Imp.refl _ | (apply Imp.left; exact Imp.refl _) | (apply Imp.right; exact Imp.refl _) | (apply Imp.left; apply Imp.left; exact Imp.refl _))) | (apply EvC.now; exact rfl))); done) | (first | apply ext_inst | apply ext_row) | (focus (repeat (first | apply List.Mem.head | apply List.Mem.tail | apply List.mem_append_right)))); (intro hcc w hC; exact tame_below (HN.out _ (hT.own hC)) hC); (simp only [List.set_cons_succ, List.set_cons_zero]; exact rfl))
    | ((first | (with_reducible apply q_pl) | ((with_reducible apply q_gd); (first | (apply GdBy.gt; exact rfl; exact rfl) | (apply GdBy.gf; exact rfl; exact rfl) | (apply GdBy.t; exact rfl; exact rfl) | (apply GdBy.f; exact rfl; exact rfl)))); (with_reducible apply t_call Tryd.call34); (first | (apply EvC.gv; exact rfl; (with_reducible first | exact Imp.refl _ | (apply Imp.left; exact Imp.refl _) | (apply Imp.right; exact Imp.refl _) | (apply Imp.left; apply Imp.left; exact Imp.refl _))) | (apply EvC.now; exact rfl) | exact rfl | (with_reducible exact EvAll.nil) | (focus (repeat (first | apply EvAll.cons | exact EvAll.nil | (apply EvC.gv; exact rfl; (with_reducible first | exact Imp.refl _ | (apply Imp.left; exact Imp.refl _) | (apply Imp.right; exact Imp.refl _) | (apply Imp.left; apply Imp.left; exact Imp.refl _))) | (apply EvC.now; exact rfl))); done) | (first | apply ext_inst | apply ext_row) | (focus (repeat (first | apply List.Mem.head | apply List.Mem.tail | apply List.mem_append_right)))); (intro hcc w hC; exact tame_below (HO.out _ (hT.own hC)) hC); (simp only [List.set_cons_succ, List.set_cons_zero]; exact rfl))
    | ((first | (with_reducible apply q_pl) | ((with_reducible apply q_gd); (first | (apply GdBy.gt; exact rfl; exact rfl) | (apply GdBy.gf; exact rfl; exact rfl) | (apply GdBy.t; exact rfl; exact rfl) | (apply GdBy.f; exact rfl; exact rfl)))); (with_reducible apply t_cat); (first | (with_reducible first | exact lit_now l32 | exact lit_now l43 | exact lit_now l44 | exact lit_now l45 | exact lit_now l58 | exact lit_now l91 | exact lit_now l93 | exact lit_now lBYTE | exact lit_now lWORD | exact lit_now lFAR | exact lit_now lLOCK | exact lit_now lREPNE | exact lit_now lREP) | (apply EvC.now; exact rfl)); (first | (with_reducible first | exact lit_now l32 | exact lit_now l43 | exact lit_now l44 | exact lit_now l45 | exact lit_now l58 | exact lit_now l91 | exact lit_now l93 | exact lit_now lBYTE | exact lit_now lWORD | exact lit_now lFAR | exact lit_now lLOCK | exact lit_now lREPNE | exact lit_now lREP) | (apply EvC.now; exact rfl)); ((try simp only [List.length_append, List.length_cons, List.length_nil]); omega); (simp only [List.set_cons_succ, List.set_cons_zero]; exact rfl))
    | ((with_reducible apply q_gd); (first | (apply GdBy.gt; exact rfl; exact rfl) | (apply GdBy.gf; exact rfl; exact rfl) | (apply GdBy.t; exact rfl; exact rfl) | (apply GdBy.f; exact rfl; exact rfl)); ((with_reducible apply t_num) <;> (first | (apply EvC.gv; exact rfl; (with_reducible first | exact Imp.refl _ | (apply Imp.left; exact Imp.refl _) | (apply Imp.right; exact Imp.refl _) | (apply Imp.left; apply Imp.left; exact Imp.refl _))) | (apply EvC.now; exact rfl) | exact rfl | (with_reducible exact EvAll.nil) | (focus (repeat (first | apply EvAll.cons | exact EvAll.nil | (apply EvC.gv; exact rfl; (with_reducible first | exact Imp.refl _ | (apply Imp.left; exact Imp.refl _) | (apply Imp.right; exact Imp.refl _) | (apply Imp.left; apply Imp.left; exact Imp.refl _))) | (apply EvC.now; exact rfl))); done) | (first | apply ext_inst | apply ext_row) | (focus (repeat (first | apply List.Mem.head | apply List.Mem.tail | apply List.mem_append_right))))); (simp only [List.set_cons_succ, List.set_cons_zero]; exact rfl))
    | ((with_reducible apply wpT1_gpure); (first | (apply GdBy.gt; exact rfl; exact rfl) | (apply GdBy.gf; exact rfl; exact rfl) | (apply GdBy.t; exact rfl; exact rfl) | (apply GdBy.f; exact rfl; exact rfl)); intro K hK; go_simp; refine hK _ ?_; clear hK K; simp only [List.set_cons_succ, List.set_cons_zero])
    | ((with_reducible apply wpT1_pure); exact rfl; intro K hK; go_simp; refine hK _ ?_; clear hK K; simp only [List.set_cons_succ, List.set_cons_zero]))
    refine wpG_end hR (by kernel_rfl) ?_
    clear hR; intro w hR
    go_wp2
    go_ret
    exact ⟨ret_nums (by first | done | simp), hR.below⟩
  · have HV := Lib.hid (show dispV i = [63] by unfold dispV; rw [hm]; rfl)
    rw [hm] at hms
    have HM := Lib.hid hms
    rw [HV.out]
    clear hms hm
    go_enter Tryd.func17, Tryd.ntmps17
    go_wp2_with (first
    | ((with_reducible apply wpList_box hR); exact rfl; exact rfl; clear hR; intro g w hR; simp only [List.set_cons_succ, List.set_cons_zero])
    | (go_at_call 31; refine (may_any i hi _).mono ?_; rw [HM.out]; rintro e w' ⟨rfl, hb⟩; replace hR := hR.grow hb; clear hb)
    | ((with_reducible apply q_ls hR); exact rfl; ((with_reducible first | apply t_addr (fInst _ (by decide)) | apply t_addr (fRow _ (by decide)) | apply t_one tInt | apply t_one tWord | apply t_one tByte | apply t_one tBool | apply t_part tInst | apply t_part tRow) <;> (first | (apply EvC.gv; exact rfl; (with_reducible first | exact Imp.refl _ | (apply Imp.left; exact Imp.refl _) | (apply Imp.right; exact Imp.refl _) | (apply Imp.left; apply Imp.left; exact Imp.refl _))) | (apply EvC.now; exact rfl) | exact rfl | (with_reducible exact EvAll.nil) | (focus (repeat (first | apply EvAll.cons | exact EvAll.nil | (apply EvC.gv; exact rfl; (with_reducible first | exact Imp.refl _ | (apply Imp.left; exact Imp.refl _) | (apply Imp.right; exact Imp.refl _) | (apply Imp.left; apply Imp.left; exact Imp.refl _))) | (apply EvC.now; exact rfl))); done) | (first | apply ext_inst | apply ext_row) | (focus (repeat (first | apply List.Mem.head | apply List.Mem.tail | apply List.mem_append_right))))); (simp only [List.set_cons_succ, List.set_cons_zero]; exact rfl); clear hR; intro w hR))
    go_ret
    exact ⟨rfl, hR.below⟩
end Go.Proofs.YtpngjefdgicmiaaDoor
