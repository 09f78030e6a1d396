
















/- Names, their numbers, and registers: the contracts of disp.nth, Name, Find, Reg, Byte, Seg. No statement of the seat is proved here. -/
import Derived.Test.YtpngjefdgicmiaaDoorTxtT
import Derived.Test.YtpngjefdgicmiaaDoorDispF
import Derived.Test.YtpngjefdgicmiaaDoorBase
import Derived.Deep.DeepCutAuto
import Derived.Deep.CutBlock
namespace Go.Proofs.YtpngjefdgicmiaaDoor
open Go.ChangeShapes Go.WideShapes Go.ChangeAt Go.RowKit
set_option linter.unusedVariables false
set_option linter.unusedSimpArgs false

/-! ### Names and their numbers -/
theorem find_all : allK (fun m => findL (nameL m) 1 [] namesL == m + 1) 95 = true := by kernel_rfl
theorem find_name {m : Nat} (h : m < 95) : findL (nameL m) 1 [] namesL = m + 1 := by
  have := allK_at find_all m h
  simpa using this
def blanks : List UInt8 → Nat
  | [] => 0
  | c :: r => bif c == 32 then blanks r + 1 else blanks r
theorem blanks_names : blanks namesL = 95 := by kernel_rfl
theorem takeW_pre : ∀ (cur r : List UInt8), (∀ c ∈ cur, (c == 32) = false) → takeW 32 (cur ++ 32 :: r) = cur
  | [], r, _ => by simp [takeW]
  | c :: cur, r, h => by
    have h1 := h c (.head _)
    simp only [List.cons_append, takeW, h1]
    rw [takeW_pre cur r (fun x hx => h x (.tail _ hx))]
    rfl
theorem after_pre : ∀ (cur r : List UInt8), (∀ c ∈ cur, (c == 32) = false) → after 32 (cur ++ 32 :: r) = r
  | [], r, _ => by simp [after]
  | c :: cur, r, h => by
    have h1 := h c (.head _)
    simp only [List.cons_append, after, h1]
    rw [after_pre cur r (fun x hx => h x (.tail _ hx))]
    rfl
theorem find_word (w : List UInt8) : ∀ (l : List UInt8) (n : Nat) (cur : List UInt8), (∀ c ∈ cur, (c == 32) = false) → findL w n cur l ≠ 0 →
    ∃ j, findL w n cur l = n + j ∧ j < blanks l ∧ takeW 32 (dropW 32 j (cur ++ l)) = w
  | [], n, cur, _, h => absurd rfl h
  | c :: r, n, cur, hc, h => by
    simp only [findL] at h ⊢
    cases h32 : c == 32
    · rw [h32] at h
      simp only [cond_false] at h ⊢
      obtain ⟨j, h1, h2, h3⟩ := find_word w r n (cur ++ [c]) (fun x hx => by
        rcases List.mem_append.1 hx with h | h
        · exact hc x h
        · rw [List.mem_singleton.1 h]; exact h32) h
      refine ⟨j, h1, ?_, ?_⟩
      · simp only [blanks, h32, cond_false]; exact h2
      · rw [List.append_assoc] at h3; exact h3
    · rw [h32] at h
      have hc32 : c = 32 := by simpa using h32
      subst hc32
      simp only [cond_true] at h ⊢
      cases hw : cur == w
      · rw [hw] at h
        simp only [cond_false] at h ⊢
        obtain ⟨j, h1, h2, h3⟩ := find_word w r (n + 1) [] (fun _ h => nomatch h) h
        refine ⟨j + 1, by rw [h1]; omega, ?_, ?_⟩
        · simp [blanks]; exact h2
        · show takeW 32 (dropW 32 j (after 32 (cur ++ 32 :: r))) = w
          rw [after_pre _ _ hc]; exact h3
      · refine ⟨0, by simp, ?_, ?_⟩
        · simp [blanks]
        · show takeW 32 (cur ++ 32 :: r) = w
          rw [takeW_pre _ _ hc]; simpa using hw

/-! ### Words of a text -/
def wOkB (w : List Int) : Bool := !w.isEmpty && w.all fun c => decide (0 ≤ c) && decide (c ≤ 127) && spV c.toNat == 0
theorem wok_of {w : List Int} (h : wOkB w = true) : WOk w := by
  unfold wOkB at h
  rw [Bool.and_eq_true] at h
  refine ⟨fun h0 => by rw [h0] at h; exact absurd h.1 (by decide), fun c hc => ?_⟩
  have := List.all_eq_true.1 h.2 c hc
  simp only [Bool.and_eq_true, decide_eq_true_eq, beq_iff_eq] at this
  exact ⟨this.1, this.2⟩
theorem woks_of {L : List (List Int)} (h : L.all wOkB = true) : ∀ w ∈ L, WOk w := fun w hw => wok_of (List.all_eq_true.1 h w hw)
theorem WOk.bytes {w : List Int} (h : WOk w) : bytesOk w := fun c hc => ⟨(h.ok c hc).1.1, by have := (h.ok c hc).1.2; omega⟩
theorem cells_str (L : List (List Int)) : cellsW L = strL L := rfl
theorem nth_any (ws : List (List Int)) (hne : ws ≠ []) (hw : ws.all wOkB = true) (hl : (joinW ws).length ≤ 1000000) (n : Int) (w0 : World) (hT : Tabs w0) (h0 : -9223372036854775808 ≤ n) (h1 : n ≤ 9223372036854775807) :
    Calls Tryd.prog 21 #[.string (strOfNums (joinW ws)), .int .i64 n] w0 fun e w' => e = .returned (.string (strOfNums (of17 ws n))) ∧ Below w0.heap.size w0 w' := by
  have hR := Own.start w0
  have hws := woks_of hw
  have HF := Lib.hid fun w hTw => fields_any ws hne hws hl w hTw
  have hml := joinW_len hws
  go_enter Tryd.func21, Tryd.ntmps21
  go_wp2_with fail
  refine (HF.out _ (hT.own hR)).mono ?_
  rintro e w1 ⟨v, rfl, hb, hV⟩
  replace hR := hR.grow hb
  have hZ2 := (Since.start w0).own hR
  clear hR hb
  try clear hZ
  have hZ := hZ2
  clear hZ2
  have hR := Own.start w1
  clear HF hws hw
  have hml2 : ws.length ≤ 1000000 := by omega
  clear hml hl
  go_upto_region 2 with fail
  refine wp_region_tame hR [0, 1, 2, 3, 4, 5, 6, 7] rfl ?_
  repeat (refine wpT_step rfl ?_; first
    | ((first | (with_reducible apply q_pl) | ((with_reducible apply q_gd); (first | (apply GdBy.gt; exact rfl; exact rfl) | (apply GdBy.gf; exact rfl; exact rfl) | (apply GdBy.t; exact rfl; exact rfl) | (apply GdBy.f; exact rfl; exact rfl)))); (with_reducible apply t_lenRd Tryd.underlying33); (first | (apply EvC.gv; exact rfl; (with_reducible first | exact Imp.refl _ | (apply Imp.left; exact Imp.refl _) | (apply Imp.right; exact Imp.refl _) | (apply Imp.left; apply Imp.left; exact Imp.refl _))) | (apply EvC.now; exact rfl)); exact hV; (simp only [List.set_cons_succ, List.set_cons_zero]; exact rfl))
    | ((first | (with_reducible apply q_pl) | ((with_reducible apply q_gd); (first | (apply GdBy.gt; exact rfl; exact rfl) | (apply GdBy.gf; exact rfl; exact rfl) | (apply GdBy.t; exact rfl; exact rfl) | (apply GdBy.f; exact rfl; exact rfl)))); (first | ((with_reducible first | apply t_move | apply t_assign | apply t_and | apply t_or | apply t_cmp | apply t_not | apply t_addr (fInst _ (by decide)) | apply t_addr (fRow _ (by decide)) | apply t_one tInt | apply t_one tWord | apply t_one tByte | apply t_one tBool | apply t_part tInst | apply t_part tRow) <;> (first | (apply EvC.gv; exact rfl; (with_reducible first | exact Imp.refl _ | (apply Imp.left; exact Imp.refl _) | (apply Imp.right; exact Imp.refl _) | (apply Imp.left; apply Imp.left; exact Imp.refl _))) | (apply EvC.now; exact rfl) | exact rfl | (with_reducible exact EvAll.nil) | (focus (repeat (first | apply EvAll.cons | exact EvAll.nil | (apply EvC.gv; exact rfl; (with_reducible first | exact Imp.refl _ | (apply Imp.left; exact Imp.refl _) | (apply Imp.right; exact Imp.refl _) | (apply Imp.left; apply Imp.left; exact Imp.refl _))) | (apply EvC.now; exact rfl))); done) | (first | apply ext_inst | apply ext_row) | (focus (repeat (first | apply List.Mem.head | apply List.Mem.tail | apply List.mem_append_right)))))); (simp only [List.set_cons_succ, List.set_cons_zero]; exact rfl))
    | ((with_reducible apply q_gd); (first | (apply GdBy.gt; exact rfl; exact rfl) | (apply GdBy.gf; exact rfl; exact rfl) | (apply GdBy.t; exact rfl; exact rfl) | (apply GdBy.f; exact rfl; exact rfl)); ((with_reducible apply t_num) <;> (first | (apply EvC.gv; exact rfl; (with_reducible first | exact Imp.refl _ | (apply Imp.left; exact Imp.refl _) | (apply Imp.right; exact Imp.refl _) | (apply Imp.left; apply Imp.left; exact Imp.refl _))) | (apply EvC.now; exact rfl) | exact rfl | (with_reducible exact EvAll.nil) | (focus (repeat (first | apply EvAll.cons | exact EvAll.nil | (apply EvC.gv; exact rfl; (with_reducible first | exact Imp.refl _ | (apply Imp.left; exact Imp.refl _) | (apply Imp.right; exact Imp.refl _) | (apply Imp.left; apply Imp.left; exact Imp.refl _))) | (apply EvC.now; exact rfl))); done) | (first | apply ext_inst | apply ext_row) | (focus (repeat (first | apply List.Mem.head | apply List.Mem.tail | apply List.mem_append_right))))); (simp only [List.set_cons_succ, List.set_cons_zero]; exact rfl))
    | ((with_reducible apply wpT1_gpure); (first | (apply GdBy.gt; exact rfl; exact rfl) | (apply GdBy.gf; exact rfl; exact rfl) | (apply GdBy.t; exact rfl; exact rfl) | (apply GdBy.f; exact rfl; exact rfl)); intro K hK; go_simp; refine hK _ ?_; clear hK K; simp only [List.set_cons_succ, List.set_cons_zero])
    | ((with_reducible apply wpT1_pure); exact rfl; intro K hK; go_simp; refine hK _ ?_; clear hK K; simp only [List.set_cons_succ, List.set_cons_zero]))
  refine wpT_nil ?_
  clear hR; intro w hR
  go_upto_if 15 with fail
  by_cases hn : 0 ≤ n ∧ n < (ws.length : Int)
  · refine wp_cond_at (nm := false) rfl (by simp; omega) (fun h => absurd h (by decide)) (fun _ => ?_)
    have hl : n.toNat < ws.length := by omega
    obtain ⟨x, hx⟩ : ∃ x, ws[n.toNat]? = some x := ⟨_, List.getElem?_eq_getElem hl⟩
    have HV := Lib.hid (show of17 ws n = x by unfold of17; rw [if_pos hn, List.getD_eq_getElem?_getD, hx]; rfl)
    have hc : (cellsW ws)[n.toNat]? = some (.string (strOfNums x)) := by unfold cellsW; rw [List.getElem?_map, hx]; rfl
    rcases hV.way with ⟨_, h2, _⟩ | ⟨a, cap, rfl, hle, hcell⟩
    · omega
    have HC := Lib.hid (show w1.cell? (a.add (n.toNat * 1)) = some (.string (strOfNums x)) by rw [Nat.mul_one]; exact hcell _ _ hc)
    obtain ⟨hn0, hn1⟩ := hn
    clear hcell hc hx
    go_wp2_with (first
    | ((with_reducible apply q_ls hR); exact rfl; (with_reducible apply t_six Tryd.underlying33 iStrF); (apply EvC.now; exact rfl); (apply EvC.now; exact rfl); (constructor <;> omega); (simp only [List.set_cons_succ, List.set_cons_zero]; exact rfl); clear hR; intro w hR)
    | ((with_reducible apply q_ls hR); exact rfl; (with_reducible apply t_oldOne tStrF); (apply EvC.now; exact rfl); exact HC.out; exact rfl; (simp only [List.set_cons_succ, List.set_cons_zero]; exact rfl); clear hR; intro w hR))
    go_ret
    exact ⟨by rw [HV.out]; rfl, (hZ.own hR).below⟩
  · refine wp_cond_at (nm := true) rfl (by simp; omega) (fun _ => ?_) (fun h => absurd h (by decide))
    have HV := Lib.hid (show of17 ws n = [63] from if_neg hn)
    go_wp2_with fail
    go_ret
    exact ⟨by rw [HV.out]; rfl, (hZ.own hR).below⟩
noncomputable def dregS : ByteArray := strOf Tryd.f9
theorem dreg_join : dregS = strOfNums (joinW regL) := by kernel_rfl
theorem nth_dreg (n : Int) (w0 : World) (hT : Tabs w0) (h0 : -9223372036854775808 ≤ n) (h1 : n ≤ 9223372036854775807) :
    Calls Tryd.prog 21 #[.string dregS, .int .i64 n] w0 fun e w' => e = .returned (.string (strOfNums (of17 regL n))) ∧ Below w0.heap.size w0 w' := by
  rw [dreg_join]
  exact nth_any regL (by decide) (by kernel_rfl) (by decide) n w0 hT h0 h1
set_option maxRecDepth 100000 in
theorem dreg_any (n : Int) (w0 : World) (hT : Tabs w0) (h0 : -9223372036854775808 ≤ n) (h1 : n ≤ 9223372036854775807) :
    Calls Tryd.prog 9 #[.int .i64 n] w0 fun e w' => e = .returned (.string (strOfNums (of17 regL n))) ∧ Below w0.heap.size w0 w' := by
  have hR := Own.start w0
  go_enter Tryd.func9, Tryd.ntmps9
  go_wp2_with fail
  refine (nth_dreg _ _ (hT.own hR) h0 h1).mono ?_
  rintro e w' ⟨rfl, hb⟩
  replace hR := hR.grow hb
  clear hb
  go_wp2_with fail
  go_ret
  exact ⟨rfl, hR.below⟩
noncomputable def dbyteS : ByteArray := strOf Tryd.f11
theorem dbyte_join : dbyteS = strOfNums (joinW byteL) := by kernel_rfl
theorem nth_dbyte (n : Int) (w0 : World) (hT : Tabs w0) (h0 : -9223372036854775808 ≤ n) (h1 : n ≤ 9223372036854775807) :
    Calls Tryd.prog 21 #[.string dbyteS, .int .i64 n] w0 fun e w' => e = .returned (.string (strOfNums (of17 byteL n))) ∧ Below w0.heap.size w0 w' := by
  rw [dbyte_join]
  exact nth_any byteL (by decide) (by kernel_rfl) (by decide) n w0 hT h0 h1
set_option maxRecDepth 100000 in
theorem dbyte_any (n : Int) (w0 : World) (hT : Tabs w0) (h0 : -9223372036854775808 ≤ n) (h1 : n ≤ 9223372036854775807) :
    Calls Tryd.prog 11 #[.int .i64 n] w0 fun e w' => e = .returned (.string (strOfNums (of17 byteL n))) ∧ Below w0.heap.size w0 w' := by
  have hR := Own.start w0
  go_enter Tryd.func11, Tryd.ntmps11
  go_wp2_with fail
  refine (nth_dbyte _ _ (hT.own hR) h0 h1).mono ?_
  rintro e w' ⟨rfl, hb⟩
  replace hR := hR.grow hb
  clear hb
  go_wp2_with fail
  go_ret
  exact ⟨rfl, hR.below⟩
noncomputable def dsegS : ByteArray := strOf Tryd.f13
theorem dseg_join : dsegS = strOfNums (joinW segL) := by kernel_rfl
theorem nth_dseg (n : Int) (w0 : World) (hT : Tabs w0) (h0 : -9223372036854775808 ≤ n) (h1 : n ≤ 9223372036854775807) :
    Calls Tryd.prog 21 #[.string dsegS, .int .i64 n] w0 fun e w' => e = .returned (.string (strOfNums (of17 segL n))) ∧ Below w0.heap.size w0 w' := by
  rw [dseg_join]
  exact nth_any segL (by decide) (by kernel_rfl) (by decide) n w0 hT h0 h1
set_option maxRecDepth 100000 in
theorem dseg_any (n : Int) (w0 : World) (hT : Tabs w0) (h0 : -9223372036854775808 ≤ n) (h1 : n ≤ 9223372036854775807) :
    Calls Tryd.prog 13 #[.int .i64 n] w0 fun e w' => e = .returned (.string (strOfNums (of17 segL n))) ∧ Below w0.heap.size w0 w' := by
  have hR := Own.start w0
  go_enter Tryd.func13, Tryd.ntmps13
  go_wp2_with fail
  refine (nth_dseg _ _ (hT.own hR) h0 h1).mono ?_
  rintro e w' ⟨rfl, hb⟩
  replace hR := hR.grow hb
  clear hb
  go_wp2_with fail
  go_ret
  exact ⟨rfl, hR.below⟩
/-! ### What instructions do -/
noncomputable def namesD : List (List Int) := [63] :: (List.range 95).map fun m => (nameL m).map fun b => (b.toNat : Int)
theorem namesD_len : namesD.length = 96 := by simp [namesD]
theorem namesD_ne : namesD ≠ [] := List.cons_ne_nil _ _
theorem namesD_ok : namesD.all wOkB = true := by kernel_rfl
theorem namesD_short : Nat.ble (joinW namesD).length 1000 = true := by kernel_rfl
noncomputable def dnamesS : ByteArray := strOf Tryd.f7
theorem dnames_join : dnamesS = strOfNums (joinW namesD) := by kernel_rfl
theorem nth_dnames (n : Int) (w0 : World) (hT : Tabs w0) (h0 : -9223372036854775808 ≤ n) (h1 : n ≤ 9223372036854775807) :
    Calls Tryd.prog 21 #[.string dnamesS, .int .i64 n] w0 fun e w' => e = .returned (.string (strOfNums (of17 namesD n))) ∧ Below w0.heap.size w0 w' := by
  rw [dnames_join]
  exact nth_any namesD (by exact namesD_ne) (by exact namesD_ok) (by exact Nat.le_trans (Nat.le_of_ble_eq_true namesD_short) (by decide)) n w0 hT h0 h1
set_option maxRecDepth 100000 in
theorem dnames_any (n : Int) (w0 : World) (hT : Tabs w0) (h0 : -9223372036854775808 ≤ n) (h1 : n ≤ 9223372036854775807) :
    Calls Tryd.prog 7 #[.int .i64 n] w0 fun e w' => e = .returned (.string (strOfNums (of17 namesD n))) ∧ Below w0.heap.size w0 w' := by
  have hR := Own.start w0
  go_enter Tryd.func7, Tryd.ntmps7
  go_wp2_with fail
  refine (nth_dnames _ _ (hT.own hR) h0 h1).mono ?_
  rintro e w' ⟨rfl, hb⟩
  replace hR := hR.grow hb
  clear hb
  go_wp2_with fail
  go_ret
  exact ⟨rfl, hR.below⟩
theorem namesD_at {m : Nat} (h : m < 95) : namesD[m + 1]? = some ((nameL m).map fun b => (b.toNat : Int)) := by
  unfold namesD
  rw [List.getElem?_cons_succ, List.getElem?_map, List.getElem?_range h]; rfl
theorem of_names (n : Int) : of17 namesD n = nameT n := by
  unfold of17 nameT nameN
  rw [namesD_len]
  by_cases h : 1 ≤ n ∧ n ≤ 95
  · rw [if_pos (by omega), show leB 1 n = true from decide_eq_true h.1, show leB n 95 = true from decide_eq_true h.2, List.getD_eq_getElem?_getD]
    obtain ⟨m, rfl⟩ : ∃ m : Nat, n = (m : Int) + 1 := ⟨(n - 1).toNat, by omega⟩
    rw [show ((m : Int) + 1).toNat = m + 1 by omega, namesD_at (by omega), show ((m : Int) + 1 - 1).toNat = m by omega]; rfl
  · have e : (leB 1 n && leB n 95) = false := by
      by_cases h1 : 1 ≤ n
      · rw [show leB 1 n = true from decide_eq_true h1, show leB n 95 = false from decide_eq_false (by omega)]; rfl
      · rw [show leB 1 n = false from decide_eq_false h1]; rfl
    rw [e]
    split
    · obtain rfl : n = 0 := by omega
      rfl
    · rfl
theorem dname_any (n : Int) (w : World) (hT : Tabs w) (h0 : -9223372036854775808 ≤ n) (h1 : n ≤ 9223372036854775807) :
    Calls Tryd.prog 7 #[.int .i64 n] w fun e w' => e = .returned (.string (strOfNums (nameT n))) ∧ Below w.heap.size w w' := by
  rw [← of_names]; exact dnames_any n w hT h0 h1
theorem idxI_ways (t : List Int) : ∀ (L : List (List Int)) (k : Int), (∃ j : Nat, L[j]? = some t ∧ idxI t k L = k + (j : Int)) ∨ ((∀ j : Nat, L[j]? ≠ some t) ∧ idxI t k L = -1)
  | [], k => .inr ⟨(fun j h => nomatch h), rfl⟩
  | x :: L, k => by
    show (∃ j : Nat, (x :: L)[j]? = some t ∧ (bif decide (t = x) then k else idxI t (k + 1) L) = k + (j : Int)) ∨ ((∀ j : Nat, (x :: L)[j]? ≠ some t) ∧ (bif decide (t = x) then k else idxI t (k + 1) L) = -1)
    by_cases h : t = x
    · rw [decide_eq_true h]
      exact .inl ⟨0, by rw [h]; rfl, by simp⟩
    · rw [decide_eq_false h]
      rcases idxI_ways t L (k + 1) with ⟨j, h1, h2⟩ | ⟨h1, h2⟩
      · exact .inl ⟨j + 1, h1, by rw [cond_false, h2]; omega⟩
      · refine .inr ⟨fun j => ?_, h2⟩
        cases j with
        | zero => intro hx; exact h (Option.some.inj hx).symm
        | succ j => exact h1 j
theorem nums_inj : ∀ {a b : List UInt8}, (a.map fun x => (x.toNat : Int)) = b.map (fun x => (x.toNat : Int)) → a = b
  | [], [], _ => rfl
  | [], _ :: _, h => nomatch h
  | _ :: _, [], h => nomatch h
  | x :: a, y :: b, h => by
    simp only [List.map_cons, List.cons.injEq] at h
    have h1 : x = y := UInt8.toNat_inj.1 (by omega)
    rw [h1, nums_inj h.2]
theorem find_none : findL [63] 1 [] namesL = 0 := by kernel_rfl
theorem find_same (t : ByteArray) : (if idxI (numsS t) 0 namesD < 0 then 0 else idxI (numsS t) 0 namesD) = (findL t.data.toList 1 [] namesL : Nat) := by
  rcases idxI_ways (numsS t) namesD 0 with ⟨j, h1, h2⟩ | ⟨h1, h2⟩
  · have hj : j < 96 := by have := (List.getElem?_eq_some_iff.1 h1).1; rwa [namesD_len] at this
    rw [h2, if_neg (by omega)]
    cases j with
    | zero =>
      have e : t.data.toList = [63] := nums_inj (Option.some.inj h1).symm
      rw [e, find_none]; rfl
    | succ m =>
      rw [namesD_at (by omega)] at h1
      have e : t.data.toList = nameL m := nums_inj (Option.some.inj h1).symm
      rw [e, find_name (by omega)]; omega
  · rw [h2, if_pos (by decide)]
    by_cases hz : findL t.data.toList 1 [] namesL = 0
    · rw [hz]; rfl
    · obtain ⟨j, h3, h4, h5⟩ := find_word _ namesL 1 [] (fun _ h => nomatch h) hz
      rw [blanks_names] at h4
      refine absurd ?_ (h1 (j + 1))
      rw [namesD_at h4]
      have e : nameL j = t.data.toList := h5
      rw [e]; rfl
theorem fields_names (w0 : World) (hT : Tabs w0) : Calls Tryd.prog 20 #[.string dnamesS] w0 fun e w' => ∃ v, e = .returned v ∧ Below w0.heap.size w0 w' ∧ Rd w' 1 v namesD.length (cellsW namesD) := by
  rw [dnames_join]
  exact fields_any namesD namesD_ne (woks_of namesD_ok) (Nat.le_trans (Nat.le_of_ble_eq_true namesD_short) (by decide)) w0 hT
set_option maxRecDepth 100000 in
theorem dfind_any (t : ByteArray) (w0 : World) (hT : Tabs w0) (h : t.size ≤ 1000000) :
    Calls Tryd.prog 5 #[.string t] w0 fun e w' => e = .returned (.int .i64 (findL t.data.toList 1 [] namesL)) ∧ Below w0.heap.size w0 w' := by
  have hR := Own.start w0
  obtain ⟨ns, hns⟩ : ∃ ns, numsS t = ns := ⟨_, rfl⟩
  have hto : bytesOk ns := by rw [← hns]; exact numsS_ok t
  have ht : strOfNums ns = t := by rw [← hns]; exact strOf_nums t
  have hs := find_same t
  rw [hns] at hs
  obtain ⟨k, hk⟩ : ∃ k, findL t.data.toList 1 [] namesL = k := ⟨_, rfl⟩
  rw [hk] at hs ⊢
  rw [← ht]
  have HS := Lib.hid hs
  clear hk hs ht hns h t
  go_enter Tryd.func5, Tryd.ntmps5
  go_wp2_with fail
  refine (fields_names _ (hT.own hR)).mono ?_
  rintro e w1 ⟨v, rfl, hb, hV⟩
  replace hR := hR.grow hb
  have hZ2 := (Since.start w0).own hR
  clear hR hb
  try clear hZ
  have hZ := hZ2
  clear hZ2
  have hR := Own.start w1
  go_wp2_with (first
    | (go_at_call 19; refine (index_any (hV.own hR) (by rw [namesD_len]; decide) ns hto (fun x hx => (woks_of namesD_ok x hx).bytes)).mono ?_; rintro e w' ⟨rfl, hb⟩; replace hR := hR.grow hb; clear hb)
    | ((with_reducible apply q_ls hR); exact rfl; (with_reducible apply t_maxK); (apply EvC.now; exact rfl); (apply EvC.now; exact rfl); exact HS.out; (simp only [List.set_cons_succ, List.set_cons_zero]; exact rfl); clear hR; intro w hR))
  go_ret
  exact ⟨rfl, (hZ.own hR).below⟩
end Go.Proofs.YtpngjefdgicmiaaDoor
