









/- Contracts of slices.Index over texts, of expr's Register, of what counts in memory, of a register's operand, of an operand. No statement of the seat is proved here. -/
import Derived.Test.YtckkgooabnlooaaDoorExpF
namespace Go.Proofs.YtckkgooabnlooaaDoor
open Go.ChangeShapes Go.WideShapes Go.ChangeAt Go.RowKit
set_option linter.unusedVariables false
set_option linter.unusedSimpArgs false
set_option maxRecDepth 100000

theorem iStrE : (Tryd.prog.info? 9).map (·.size) = some 1 := by kernel_rfl
theorem index_any {w0 : World} {v : Value} {L : List (List Int)} (hS : Strs w0 v L) (hl : L.length ≤ 1000000) (t : List Int) (ht : bytesOk t) :
    Calls Tryd.prog 22 #[v, .string (strOfNums t)] w0 fun e w' => e = .returned (.int .i64 (idxT L t)) ∧ Below w0.heap.size w0 w' := by
  have hR := Own.start w0
  have h := hS.rd
  unfold idxT
  go_enter Tryd.func22, Tryd.ntmps22
  go_wp2_with (first
    | ((with_reducible apply q_ls hR); exact rfl; (with_reducible apply t_lenRd Tryd.underlying23); (apply EvC.now; exact rfl); exact h; (simp only [cS, cZ]; exact rfl); clear hR; intro w hR))
  go_loopw [8] (fun i wr => ∃ k : Nat, i = .int .i64 k ∧ k ≤ L.length ∧ idxI t k (L.drop k) = idxI t 0 L ∧ Own w0 wr []) (fun i _ => L.length - (intOf i).toNat)
  case atStart => exact ⟨0, rfl, Nat.zero_le _, rfl, hR⟩
  case round =>
    clear hR
    obtain ⟨k, rfl, hk, hrel, hR⟩ := hrel
    have HR := Lib.hid hrel
    clear hrel
    by_cases hlt : k < L.length
    · obtain ⟨x, hx⟩ : ∃ x, L[k]? = some x := ⟨_, List.getElem?_eq_getElem hlt⟩
      have hxo := hS.ok x (List.mem_of_getElem? hx)
      have hd : L.drop k = x :: L.drop (k + 1) := by
        rw [List.drop_eq_getElem_cons hlt]
        rw [List.getElem?_eq_getElem hlt] at hx
        rw [Option.some.inj hx]
      have HD := Lib.hid hd
      have hc : (L.flatMap cellT)[k]? = some (.string (strOfNums x)) := by rw [flatT_at, hx]; rfl
      rcases h.way with ⟨_, h2, _⟩ | ⟨a, cap, rfl, hle, hcell⟩
      · omega
      have HC := Lib.hid (show w0.cell? (a.add (k * 1)) = some (.string (strOfNums x)) by rw [Nat.mul_one]; exact hcell _ _ hc)
      clear hcell hc hx hd
      by_cases htx : t = x
      · have HT := Lib.hid (show decide (t = x) = true from decide_eq_true htx)
        have HV := Lib.hid (show idxI t 0 L = k by rw [← HR.out, HD.out]; show (bif decide (t = x) then (k : Int) else _) = _; rw [HT.out]; rfl)
        clear htx
        go_wp2_with (first
    | ((with_reducible apply q_ls hR); exact rfl; (with_reducible apply t_six Tryd.underlying23 iStrE); (apply EvC.now; exact rfl); (apply EvC.now; exact rfl); (constructor <;> omega); (simp only [cS, cZ]; exact rfl); clear hR; intro w hR)
    | ((with_reducible apply q_ls hR); exact rfl; (with_reducible apply t_oldOne tStrE); (apply EvC.now; exact rfl); (simpa using HC.out); exact rfl; (simp only [cS, cZ]; exact rfl); clear hR; intro w hR)
    | ((with_reducible apply q_ls hR); exact rfl; (with_reducible apply t_eqE ht hxo); (apply EvC.now; exact rfl); (apply EvC.now; exact rfl); exact HT.out; (simp only [cS, cZ]; exact rfl); clear hR; intro w hR))
        go_ret
        exact ⟨by rw [HV.out]; rfl, hR.below⟩
      · have HT := Lib.hid (show decide (t = x) = false from decide_eq_false htx)
        have HV := Lib.hid (show idxI t ((k + 1 : Nat) : Int) (L.drop (k + 1)) = idxI t 0 L by rw [← HR.out, HD.out]; show _ = (bif decide (t = x) then (k : Int) else _); rw [HT.out]; rfl)
        clear htx
        go_wp2_with (first
    | ((with_reducible apply q_ls hR); exact rfl; (with_reducible apply t_six Tryd.underlying23 iStrE); (apply EvC.now; exact rfl); (apply EvC.now; exact rfl); (constructor <;> omega); (simp only [cS, cZ]; exact rfl); clear hR; intro w hR)
    | ((with_reducible apply q_ls hR); exact rfl; (with_reducible apply t_oldOne tStrE); (apply EvC.now; exact rfl); (simpa using HC.out); exact rfl; (simp only [cS, cZ]; exact rfl); clear hR; intro w hR)
    | ((with_reducible apply q_ls hR); exact rfl; (with_reducible apply t_eqE ht hxo); (apply EvC.now; exact rfl); (apply EvC.now; exact rfl); exact HT.out; (simp only [cS, cZ]; exact rfl); clear hR; intro w hR))
        go_round
        case rel => exact ⟨k + 1, by simp, hlt, HV.out, hR.drop (List.nil_sublist _)⟩
        case measure => simp [intOf]; omega
    · obtain rfl : k = L.length := by omega
      have HV := Lib.hid (show idxI t 0 L = -1 by rw [← HR.out, List.drop_length]; rfl)
      go_wp2_with fail
      go_ret
      exact ⟨by rw [HV.out]; rfl, hR.below⟩
theorem regsZ_ok : ∀ x ∈ regsZ, bytesOk x := fun x hx => ascii.ok (ascii_of (List.all_eq_true.1 (show (regsZ.all fun s => s.all (fun c => decide (0 ≤ c) && decide (c ≤ 127))) = true from by decide +kernel) x hx))
theorem t_gload {P : Program} {w0 : World} {l : List RowT} {c : Bool} {dd : Option Tmp} {ls : List Value} {ds : List Deferred} {tp : TypeId} {pos : String} {af : Array Edge} {gd : Option (Nat × Bool)} {ty : TypeId} (ht : OneTy P ty) {b : Nat} {v : Value} {t : TypeId} {fr : Nat × Nat} (hT : w0.heap[b]? = some (.cells #[v] t fr)) :
    TIf P (fun w => Own w0 w l) c ⟨dd, .load ty (.global b), tp, pos, af, gd⟩ ⟨ls.toArray, ds⟩ v := by
  obtain ⟨d', hu, hd, _⟩ := ht
  exact ⟨fun e => .inl fun w hC => run_loadOne (off := 0) rfl rfl (hC.old hT) hu hd rfl⟩
theorem registerE_any {w0 : World} (hT : Tabs w0) {s : List Int} (hs : bytesOk s) : Calls Tryd.prog 13 #[.string (strOfNums s)] w0 fun e w' => e = .returned (.int .i64 (regIx s)) ∧ Below w0.heap.size w0 w' := by
  have hR := Own.start w0
  obtain ⟨v, t, fr, h1, h2⟩ := hT.reg
  go_enter Tryd.func13, Tryd.ntmps13
  go_wp2_with (first
    | ((with_reducible apply q_ls hR); exact rfl; (with_reducible apply t_gload tStrsE); exact h1; (simp only [cS, cZ]; exact rfl); clear hR; intro w hR)
    | (go_at_call 22; refine (index_any (h2.own hR) (by decide) s hs).mono ?_; rintro e w' ⟨rfl, hb⟩; replace hR := hR.grow hb; clear hb))
  go_ret
  exact ⟨rfl, hR.below⟩
theorem idxI_bd (t : List Int) : ∀ (L : List (List Int)) (k : Int), 0 ≤ k → -1 ≤ idxI t k L ∧ idxI t k L < k + L.length
  | [], k, h => ⟨by show (-1 : Int) ≤ -1; decide, by show (-1 : Int) < k + 0; omega⟩
  | x :: r, k, h => by
    show -1 ≤ (bif decide (t = x) then k else idxI t (k + 1) r) ∧ (bif decide (t = x) then k else idxI t (k + 1) r) < _
    have := idxI_bd t r (k + 1) (by omega)
    rw [List.length_cons]
    cases decide (t = x)
    · rw [cond_false]; omega
    · rw [cond_true]; omega
theorem regIx_bd (s : List Int) : -1 ≤ regIx s ∧ regIx s ≤ 19 := by
  have := idxI_bd s regsZ 0 (by decide)
  have h : regsZ.length = 20 := rfl
  rw [h] at this
  unfold regIx idxT
  omega
/-! ### What counts in memory -/
theorem bCount (n : Int) (v : ValZ) : Built Tryd.prog 69 [(2, .agg (encV v)), (4, .int .i64 n)] (encPt ⟨false, 0, v, false, n, 0, 0, 0, false⟩) := ⟨by kernel_rfl⟩
theorem bCountI (n : Int) (v : ValZ) : Built Tryd.prog 69 [(2, .agg (encV v)), (5, .int .i64 n)] (encPt ⟨false, 0, v, false, 0, n, 0, 0, false⟩) := ⟨by kernel_rfl⟩
theorem countE_any {s : List Int} (hs : bytesOk s) (w0 : World) : Calls Tryd.prog 96 #[.string (strOfNums s)] w0 (AnsO w0 partV (countingZ s)) := by
  have hR := Own.start w0
  unfold countingZ
  by_cases h0 : s = sBX
  · rw [if_pos h0]
    refine okO_ans ?_ rfl
    go_enter Tryd.func96, Tryd.ntmps96
    go_wp2_with (first
    | ((with_reducible apply wpList_box hR); exact rfl; exact rfl; clear hR; intro g w hR; simp only [cS, cZ])
    | ((with_reducible apply wpList_make hR zPart); exact rfl; clear hR; intro g w hR; simp only [cS, cZ])
    | ((with_reducible apply wpList_make hR zOpd); exact rfl; clear hR; intro g w hR; simp only [cS, cZ])
    | ((with_reducible apply q_ls hR); exact rfl; ((with_reducible first | apply t_addr fPart0 | apply t_addr fPart1 | apply t_addr fPart2 | apply t_addr fPart3 | apply t_addr fPart4 | apply t_addr fPart5 | apply t_addr fPart6 | apply t_addr fPart7 | apply t_addr fPart8 | apply t_addr fOpd0 | apply t_addr fOpd3 | apply t_addr fOpd4 | apply t_fieldO (fValO _ (by decide)) | apply t_one tIntV | apply t_one tBoolV | apply t_one tStrE | apply t_one tStrsE | apply t_part tVal | apply t_part tOpd) <;> (first | (focus (repeat (first | (apply EvC.gv; exact rfl; (with_reducible first | exact Imp.refl _ | (apply Imp.left; exact Imp.refl _) | (apply Imp.right; exact Imp.refl _) | (apply Imp.left; apply Imp.left; exact Imp.refl _))) | (apply EvC.now; exact rfl) | (with_reducible first | apply EvAll.cons | exact EvAll.nil))); done) | exact rfl | (first | exact ext_val _ | exact ext_partV _ | exact ext_opd _ | exact ext_rdrH _ _ _) | (focus (repeat (first | apply List.Mem.head | apply List.Mem.tail | apply List.mem_append_right))))); (simp only [cS, cZ]; exact rfl); clear hR; intro w hR)
    | ((with_reducible apply q_ls hR); exact rfl; (with_reducible apply t_wordT lsBX oksBX hs h0); (apply EvC.now; exact rfl); (simp only [cS, cZ]; exact rfl); clear hR; intro w hR)
    | (go_at_call 76; refine (numV_any 0 _).mono ?_; rintro e w' ⟨rfl, hb⟩; replace hR := hR.grow hb; clear hb)
    | ((with_reducible apply wpList_built); exact rfl; exact rfl; exact bCount _ _; (simp only [cS, cZ]; exact rfl))
    | ((with_reducible apply wpList_put hR tPart); exact rfl; exact rfl; exact rfl; (focus (repeat (first | apply List.Mem.head | apply List.Mem.tail | apply List.mem_append_right))); exact put_part _ _; exact rfl; exact Nat.le_refl 14; exact one_part _; (focus (repeat (first | apply Upd.head | apply Upd.tail))); clear hR; intro w hR)
    | ((with_reducible apply wpList_put hR tOpd); exact rfl; exact rfl; exact rfl; (focus (repeat (first | apply List.Mem.head | apply List.Mem.tail | apply List.mem_append_right))); exact put_opd _ _; exact rfl; exact Nat.le_refl 12; exact one_opd _; (focus (repeat (first | apply Upd.head | apply Upd.tail))); clear hR; intro w hR))
    (try simp only [Exit.inBlock, Exit.then])
    exact post_row hR rfl (by rfl) (by (focus (repeat (first | apply List.Mem.head | apply List.Mem.tail | apply List.mem_append_right)))) Tryd.underlying69 rfl iPart (by rfl) (by rfl) ⟨rfl, hR.below⟩
  rw [if_neg h0]
  by_cases h1 : s = sBP
  · rw [if_pos h1]
    refine okO_ans ?_ rfl
    go_enter Tryd.func96, Tryd.ntmps96
    go_wp2_with (first
    | ((with_reducible apply wpList_box hR); exact rfl; exact rfl; clear hR; intro g w hR; simp only [cS, cZ])
    | ((with_reducible apply wpList_make hR zPart); exact rfl; clear hR; intro g w hR; simp only [cS, cZ])
    | ((with_reducible apply wpList_make hR zOpd); exact rfl; clear hR; intro g w hR; simp only [cS, cZ])
    | ((with_reducible apply q_ls hR); exact rfl; ((with_reducible first | apply t_addr fPart0 | apply t_addr fPart1 | apply t_addr fPart2 | apply t_addr fPart3 | apply t_addr fPart4 | apply t_addr fPart5 | apply t_addr fPart6 | apply t_addr fPart7 | apply t_addr fPart8 | apply t_addr fOpd0 | apply t_addr fOpd3 | apply t_addr fOpd4 | apply t_fieldO (fValO _ (by decide)) | apply t_one tIntV | apply t_one tBoolV | apply t_one tStrE | apply t_one tStrsE | apply t_part tVal | apply t_part tOpd) <;> (first | (focus (repeat (first | (apply EvC.gv; exact rfl; (with_reducible first | exact Imp.refl _ | (apply Imp.left; exact Imp.refl _) | (apply Imp.right; exact Imp.refl _) | (apply Imp.left; apply Imp.left; exact Imp.refl _))) | (apply EvC.now; exact rfl) | (with_reducible first | apply EvAll.cons | exact EvAll.nil))); done) | exact rfl | (first | exact ext_val _ | exact ext_partV _ | exact ext_opd _ | exact ext_rdrH _ _ _) | (focus (repeat (first | apply List.Mem.head | apply List.Mem.tail | apply List.mem_append_right))))); (simp only [cS, cZ]; exact rfl); clear hR; intro w hR)
    | ((with_reducible apply q_ls hR); exact rfl; (with_reducible apply t_wordF lsBX oksBX hs h0); (apply EvC.now; exact rfl); (simp only [cS, cZ]; exact rfl); clear hR; intro w hR)    | ((with_reducible apply q_ls hR); exact rfl; (with_reducible apply t_wordT lsBP oksBP hs h1); (apply EvC.now; exact rfl); (simp only [cS, cZ]; exact rfl); clear hR; intro w hR)
    | (go_at_call 76; refine (numV_any 0 _).mono ?_; rintro e w' ⟨rfl, hb⟩; replace hR := hR.grow hb; clear hb)
    | ((with_reducible apply wpList_built); exact rfl; exact rfl; exact bCount _ _; (simp only [cS, cZ]; exact rfl))
    | ((with_reducible apply wpList_put hR tPart); exact rfl; exact rfl; exact rfl; (focus (repeat (first | apply List.Mem.head | apply List.Mem.tail | apply List.mem_append_right))); exact put_part _ _; exact rfl; exact Nat.le_refl 14; exact one_part _; (focus (repeat (first | apply Upd.head | apply Upd.tail))); clear hR; intro w hR)
    | ((with_reducible apply wpList_put hR tOpd); exact rfl; exact rfl; exact rfl; (focus (repeat (first | apply List.Mem.head | apply List.Mem.tail | apply List.mem_append_right))); exact put_opd _ _; exact rfl; exact Nat.le_refl 12; exact one_opd _; (focus (repeat (first | apply Upd.head | apply Upd.tail))); clear hR; intro w hR))
    (try simp only [Exit.inBlock, Exit.then])
    exact post_row hR rfl (by rfl) (by (focus (repeat (first | apply List.Mem.head | apply List.Mem.tail | apply List.mem_append_right)))) Tryd.underlying69 rfl iPart (by rfl) (by rfl) ⟨rfl, hR.below⟩
  rw [if_neg h1]
  by_cases h2 : s = sSI
  · rw [if_pos h2]
    refine okO_ans ?_ rfl
    go_enter Tryd.func96, Tryd.ntmps96
    go_wp2_with (first
    | ((with_reducible apply wpList_box hR); exact rfl; exact rfl; clear hR; intro g w hR; simp only [cS, cZ])
    | ((with_reducible apply wpList_make hR zPart); exact rfl; clear hR; intro g w hR; simp only [cS, cZ])
    | ((with_reducible apply wpList_make hR zOpd); exact rfl; clear hR; intro g w hR; simp only [cS, cZ])
    | ((with_reducible apply q_ls hR); exact rfl; ((with_reducible first | apply t_addr fPart0 | apply t_addr fPart1 | apply t_addr fPart2 | apply t_addr fPart3 | apply t_addr fPart4 | apply t_addr fPart5 | apply t_addr fPart6 | apply t_addr fPart7 | apply t_addr fPart8 | apply t_addr fOpd0 | apply t_addr fOpd3 | apply t_addr fOpd4 | apply t_fieldO (fValO _ (by decide)) | apply t_one tIntV | apply t_one tBoolV | apply t_one tStrE | apply t_one tStrsE | apply t_part tVal | apply t_part tOpd) <;> (first | (focus (repeat (first | (apply EvC.gv; exact rfl; (with_reducible first | exact Imp.refl _ | (apply Imp.left; exact Imp.refl _) | (apply Imp.right; exact Imp.refl _) | (apply Imp.left; apply Imp.left; exact Imp.refl _))) | (apply EvC.now; exact rfl) | (with_reducible first | apply EvAll.cons | exact EvAll.nil))); done) | exact rfl | (first | exact ext_val _ | exact ext_partV _ | exact ext_opd _ | exact ext_rdrH _ _ _) | (focus (repeat (first | apply List.Mem.head | apply List.Mem.tail | apply List.mem_append_right))))); (simp only [cS, cZ]; exact rfl); clear hR; intro w hR)
    | ((with_reducible apply q_ls hR); exact rfl; (with_reducible apply t_wordF lsBX oksBX hs h0); (apply EvC.now; exact rfl); (simp only [cS, cZ]; exact rfl); clear hR; intro w hR)    | ((with_reducible apply q_ls hR); exact rfl; (with_reducible apply t_wordF lsBP oksBP hs h1); (apply EvC.now; exact rfl); (simp only [cS, cZ]; exact rfl); clear hR; intro w hR)    | ((with_reducible apply q_ls hR); exact rfl; (with_reducible apply t_wordT lsSI oksSI hs h2); (apply EvC.now; exact rfl); (simp only [cS, cZ]; exact rfl); clear hR; intro w hR)
    | (go_at_call 76; refine (numV_any 0 _).mono ?_; rintro e w' ⟨rfl, hb⟩; replace hR := hR.grow hb; clear hb)
    | ((with_reducible apply wpList_built); exact rfl; exact rfl; exact bCountI _ _; (simp only [cS, cZ]; exact rfl))
    | ((with_reducible apply wpList_put hR tPart); exact rfl; exact rfl; exact rfl; (focus (repeat (first | apply List.Mem.head | apply List.Mem.tail | apply List.mem_append_right))); exact put_part _ _; exact rfl; exact Nat.le_refl 14; exact one_part _; (focus (repeat (first | apply Upd.head | apply Upd.tail))); clear hR; intro w hR)
    | ((with_reducible apply wpList_put hR tOpd); exact rfl; exact rfl; exact rfl; (focus (repeat (first | apply List.Mem.head | apply List.Mem.tail | apply List.mem_append_right))); exact put_opd _ _; exact rfl; exact Nat.le_refl 12; exact one_opd _; (focus (repeat (first | apply Upd.head | apply Upd.tail))); clear hR; intro w hR))
    (try simp only [Exit.inBlock, Exit.then])
    exact post_row hR rfl (by rfl) (by (focus (repeat (first | apply List.Mem.head | apply List.Mem.tail | apply List.mem_append_right)))) Tryd.underlying69 rfl iPart (by rfl) (by rfl) ⟨rfl, hR.below⟩
  rw [if_neg h2]
  by_cases h3 : s = sDI
  · rw [if_pos h3]
    refine okO_ans ?_ rfl
    go_enter Tryd.func96, Tryd.ntmps96
    go_wp2_with (first
    | ((with_reducible apply wpList_box hR); exact rfl; exact rfl; clear hR; intro g w hR; simp only [cS, cZ])
    | ((with_reducible apply wpList_make hR zPart); exact rfl; clear hR; intro g w hR; simp only [cS, cZ])
    | ((with_reducible apply wpList_make hR zOpd); exact rfl; clear hR; intro g w hR; simp only [cS, cZ])
    | ((with_reducible apply q_ls hR); exact rfl; ((with_reducible first | apply t_addr fPart0 | apply t_addr fPart1 | apply t_addr fPart2 | apply t_addr fPart3 | apply t_addr fPart4 | apply t_addr fPart5 | apply t_addr fPart6 | apply t_addr fPart7 | apply t_addr fPart8 | apply t_addr fOpd0 | apply t_addr fOpd3 | apply t_addr fOpd4 | apply t_fieldO (fValO _ (by decide)) | apply t_one tIntV | apply t_one tBoolV | apply t_one tStrE | apply t_one tStrsE | apply t_part tVal | apply t_part tOpd) <;> (first | (focus (repeat (first | (apply EvC.gv; exact rfl; (with_reducible first | exact Imp.refl _ | (apply Imp.left; exact Imp.refl _) | (apply Imp.right; exact Imp.refl _) | (apply Imp.left; apply Imp.left; exact Imp.refl _))) | (apply EvC.now; exact rfl) | (with_reducible first | apply EvAll.cons | exact EvAll.nil))); done) | exact rfl | (first | exact ext_val _ | exact ext_partV _ | exact ext_opd _ | exact ext_rdrH _ _ _) | (focus (repeat (first | apply List.Mem.head | apply List.Mem.tail | apply List.mem_append_right))))); (simp only [cS, cZ]; exact rfl); clear hR; intro w hR)
    | ((with_reducible apply q_ls hR); exact rfl; (with_reducible apply t_wordF lsBX oksBX hs h0); (apply EvC.now; exact rfl); (simp only [cS, cZ]; exact rfl); clear hR; intro w hR)    | ((with_reducible apply q_ls hR); exact rfl; (with_reducible apply t_wordF lsBP oksBP hs h1); (apply EvC.now; exact rfl); (simp only [cS, cZ]; exact rfl); clear hR; intro w hR)    | ((with_reducible apply q_ls hR); exact rfl; (with_reducible apply t_wordF lsSI oksSI hs h2); (apply EvC.now; exact rfl); (simp only [cS, cZ]; exact rfl); clear hR; intro w hR)    | ((with_reducible apply q_ls hR); exact rfl; (with_reducible apply t_wordT lsDI oksDI hs h3); (apply EvC.now; exact rfl); (simp only [cS, cZ]; exact rfl); clear hR; intro w hR)
    | (go_at_call 76; refine (numV_any 0 _).mono ?_; rintro e w' ⟨rfl, hb⟩; replace hR := hR.grow hb; clear hb)
    | ((with_reducible apply wpList_built); exact rfl; exact rfl; exact bCountI _ _; (simp only [cS, cZ]; exact rfl))
    | ((with_reducible apply wpList_put hR tPart); exact rfl; exact rfl; exact rfl; (focus (repeat (first | apply List.Mem.head | apply List.Mem.tail | apply List.mem_append_right))); exact put_part _ _; exact rfl; exact Nat.le_refl 14; exact one_part _; (focus (repeat (first | apply Upd.head | apply Upd.tail))); clear hR; intro w hR)
    | ((with_reducible apply wpList_put hR tOpd); exact rfl; exact rfl; exact rfl; (focus (repeat (first | apply List.Mem.head | apply List.Mem.tail | apply List.mem_append_right))); exact put_opd _ _; exact rfl; exact Nat.le_refl 12; exact one_opd _; (focus (repeat (first | apply Upd.head | apply Upd.tail))); clear hR; intro w hR))
    (try simp only [Exit.inBlock, Exit.then])
    exact post_row hR rfl (by rfl) (by (focus (repeat (first | apply List.Mem.head | apply List.Mem.tail | apply List.mem_append_right)))) Tryd.underlying69 rfl iPart (by rfl) (by rfl) ⟨rfl, hR.below⟩
  rw [if_neg h3]
  refine badO_ans ?_ rfl
  go_enter Tryd.func96, Tryd.ntmps96
  go_wp2_with (first
    | ((with_reducible apply wpList_box hR); exact rfl; exact rfl; clear hR; intro g w hR; simp only [cS, cZ])
    | ((with_reducible apply wpList_make hR zPart); exact rfl; clear hR; intro g w hR; simp only [cS, cZ])
    | ((with_reducible apply wpList_make hR zOpd); exact rfl; clear hR; intro g w hR; simp only [cS, cZ])
    | ((with_reducible apply q_ls hR); exact rfl; ((with_reducible first | apply t_addr fPart0 | apply t_addr fPart1 | apply t_addr fPart2 | apply t_addr fPart3 | apply t_addr fPart4 | apply t_addr fPart5 | apply t_addr fPart6 | apply t_addr fPart7 | apply t_addr fPart8 | apply t_addr fOpd0 | apply t_addr fOpd3 | apply t_addr fOpd4 | apply t_fieldO (fValO _ (by decide)) | apply t_one tIntV | apply t_one tBoolV | apply t_one tStrE | apply t_one tStrsE | apply t_part tVal | apply t_part tOpd) <;> (first | (focus (repeat (first | (apply EvC.gv; exact rfl; (with_reducible first | exact Imp.refl _ | (apply Imp.left; exact Imp.refl _) | (apply Imp.right; exact Imp.refl _) | (apply Imp.left; apply Imp.left; exact Imp.refl _))) | (apply EvC.now; exact rfl) | (with_reducible first | apply EvAll.cons | exact EvAll.nil))); done) | exact rfl | (first | exact ext_val _ | exact ext_partV _ | exact ext_opd _ | exact ext_rdrH _ _ _) | (focus (repeat (first | apply List.Mem.head | apply List.Mem.tail | apply List.mem_append_right))))); (simp only [cS, cZ]; exact rfl); clear hR; intro w hR)
    | ((with_reducible apply q_ls hR); exact rfl; (with_reducible apply t_wordF lsBX oksBX hs h0); (apply EvC.now; exact rfl); (simp only [cS, cZ]; exact rfl); clear hR; intro w hR)
    | ((with_reducible apply q_ls hR); exact rfl; (with_reducible apply t_wordF lsBP oksBP hs h1); (apply EvC.now; exact rfl); (simp only [cS, cZ]; exact rfl); clear hR; intro w hR)
    | ((with_reducible apply q_ls hR); exact rfl; (with_reducible apply t_wordF lsSI oksSI hs h2); (apply EvC.now; exact rfl); (simp only [cS, cZ]; exact rfl); clear hR; intro w hR)
    | ((with_reducible apply q_ls hR); exact rfl; (with_reducible apply t_wordF lsDI oksDI hs h3); (apply EvC.now; exact rfl); (simp only [cS, cZ]; exact rfl); clear hR; intro w hR))
  exact ⟨rfl, rfl, hR.below⟩
/-! ### Operands -/
theorem bOpd2 (k n : Int) : Built Tryd.prog 41 [(0, .int .i64 k), (1, .int .i64 n)] (encOp ⟨k, n, 0, zeroVal, 0, 0, false⟩) := ⟨by kernel_rfl⟩
theorem namedOE_any (n : Int) (w0 : World) : Calls Tryd.prog 37 #[.int .i64 n] w0 fun e w' => e = .returned (.agg (encOp (namedOZ n))) ∧ Below w0.heap.size w0 w' := by
  have hR := Own.start w0
  unfold namedOZ
  by_cases h1 : 16 ≤ n
  · rw [if_pos h1]
    go_enter Tryd.func37, Tryd.ntmps37
    go_wp2_with (first
    | ((with_reducible apply wpList_box hR); exact rfl; exact rfl; clear hR; intro g w hR; simp only [cS, cZ])
    | ((with_reducible apply wpList_make hR zPart); exact rfl; clear hR; intro g w hR; simp only [cS, cZ])
    | ((with_reducible apply wpList_make hR zOpd); exact rfl; clear hR; intro g w hR; simp only [cS, cZ])
    | ((with_reducible apply q_ls hR); exact rfl; ((with_reducible first | apply t_addr fPart0 | apply t_addr fPart1 | apply t_addr fPart2 | apply t_addr fPart3 | apply t_addr fPart4 | apply t_addr fPart5 | apply t_addr fPart6 | apply t_addr fPart7 | apply t_addr fPart8 | apply t_addr fOpd0 | apply t_addr fOpd3 | apply t_addr fOpd4 | apply t_fieldO (fValO _ (by decide)) | apply t_one tIntV | apply t_one tBoolV | apply t_one tStrE | apply t_one tStrsE | apply t_part tVal | apply t_part tOpd) <;> (first | (focus (repeat (first | (apply EvC.gv; exact rfl; (with_reducible first | exact Imp.refl _ | (apply Imp.left; exact Imp.refl _) | (apply Imp.right; exact Imp.refl _) | (apply Imp.left; apply Imp.left; exact Imp.refl _))) | (apply EvC.now; exact rfl) | (with_reducible first | apply EvAll.cons | exact EvAll.nil))); done) | exact rfl | (first | exact ext_val _ | exact ext_partV _ | exact ext_opd _ | exact ext_rdrH _ _ _) | (focus (repeat (first | apply List.Mem.head | apply List.Mem.tail | apply List.mem_append_right))))); (simp only [cS, cZ]; exact rfl); clear hR; intro w hR)
    | ((with_reducible apply wpList_built); exact rfl; exact rfl; exact bOpd2 _ _; (simp only [cS, cZ]; exact rfl))
    | ((with_reducible apply wpList_put hR tPart); exact rfl; exact rfl; exact rfl; (focus (repeat (first | apply List.Mem.head | apply List.Mem.tail | apply List.mem_append_right))); exact put_part _ _; exact rfl; exact Nat.le_refl 14; exact one_part _; (focus (repeat (first | apply Upd.head | apply Upd.tail))); clear hR; intro w hR)
    | ((with_reducible apply wpList_put hR tOpd); exact rfl; exact rfl; exact rfl; (focus (repeat (first | apply List.Mem.head | apply List.Mem.tail | apply List.mem_append_right))); exact put_opd _ _; exact rfl; exact Nat.le_refl 12; exact one_opd _; (focus (repeat (first | apply Upd.head | apply Upd.tail))); clear hR; intro w hR))
    (try simp only [Exit.inBlock, Exit.then])
    exact post_row hR rfl (by rfl) (by (focus (repeat (first | apply List.Mem.head | apply List.Mem.tail | apply List.mem_append_right)))) Tryd.underlying41 rfl iOpd (by rfl) (by rfl) ⟨rfl, hR.below⟩
  rw [if_neg h1]
  by_cases h2 : 8 ≤ n
  · rw [if_pos h2, show wrap64 (n - 8) = n - 8 from by unfold wrap64; omega]
    go_enter Tryd.func37, Tryd.ntmps37
    go_wp2_with (first
    | ((with_reducible apply wpList_box hR); exact rfl; exact rfl; clear hR; intro g w hR; simp only [cS, cZ])
    | ((with_reducible apply wpList_make hR zPart); exact rfl; clear hR; intro g w hR; simp only [cS, cZ])
    | ((with_reducible apply wpList_make hR zOpd); exact rfl; clear hR; intro g w hR; simp only [cS, cZ])
    | ((with_reducible apply q_ls hR); exact rfl; ((with_reducible first | apply t_addr fPart0 | apply t_addr fPart1 | apply t_addr fPart2 | apply t_addr fPart3 | apply t_addr fPart4 | apply t_addr fPart5 | apply t_addr fPart6 | apply t_addr fPart7 | apply t_addr fPart8 | apply t_addr fOpd0 | apply t_addr fOpd3 | apply t_addr fOpd4 | apply t_fieldO (fValO _ (by decide)) | apply t_one tIntV | apply t_one tBoolV | apply t_one tStrE | apply t_one tStrsE | apply t_part tVal | apply t_part tOpd) <;> (first | (focus (repeat (first | (apply EvC.gv; exact rfl; (with_reducible first | exact Imp.refl _ | (apply Imp.left; exact Imp.refl _) | (apply Imp.right; exact Imp.refl _) | (apply Imp.left; apply Imp.left; exact Imp.refl _))) | (apply EvC.now; exact rfl) | (with_reducible first | apply EvAll.cons | exact EvAll.nil))); done) | exact rfl | (first | exact ext_val _ | exact ext_partV _ | exact ext_opd _ | exact ext_rdrH _ _ _) | (focus (repeat (first | apply List.Mem.head | apply List.Mem.tail | apply List.mem_append_right))))); (simp only [cS, cZ]; exact rfl); clear hR; intro w hR)
    | ((with_reducible apply wpList_built); exact rfl; exact rfl; exact bOpd2 _ _; (simp only [cS, cZ]; exact rfl))
    | ((with_reducible apply wpList_put hR tPart); exact rfl; exact rfl; exact rfl; (focus (repeat (first | apply List.Mem.head | apply List.Mem.tail | apply List.mem_append_right))); exact put_part _ _; exact rfl; exact Nat.le_refl 14; exact one_part _; (focus (repeat (first | apply Upd.head | apply Upd.tail))); clear hR; intro w hR)
    | ((with_reducible apply wpList_put hR tOpd); exact rfl; exact rfl; exact rfl; (focus (repeat (first | apply List.Mem.head | apply List.Mem.tail | apply List.mem_append_right))); exact put_opd _ _; exact rfl; exact Nat.le_refl 12; exact one_opd _; (focus (repeat (first | apply Upd.head | apply Upd.tail))); clear hR; intro w hR))
    (try simp only [Exit.inBlock, Exit.then])
    exact post_row hR rfl (by rfl) (by (focus (repeat (first | apply List.Mem.head | apply List.Mem.tail | apply List.mem_append_right)))) Tryd.underlying41 rfl iOpd (by rfl) (by rfl) ⟨rfl, hR.below⟩
  · rw [if_neg h2]
    go_enter Tryd.func37, Tryd.ntmps37
    go_wp2_with (first
    | ((with_reducible apply wpList_box hR); exact rfl; exact rfl; clear hR; intro g w hR; simp only [cS, cZ])
    | ((with_reducible apply wpList_make hR zPart); exact rfl; clear hR; intro g w hR; simp only [cS, cZ])
    | ((with_reducible apply wpList_make hR zOpd); exact rfl; clear hR; intro g w hR; simp only [cS, cZ])
    | ((with_reducible apply q_ls hR); exact rfl; ((with_reducible first | apply t_addr fPart0 | apply t_addr fPart1 | apply t_addr fPart2 | apply t_addr fPart3 | apply t_addr fPart4 | apply t_addr fPart5 | apply t_addr fPart6 | apply t_addr fPart7 | apply t_addr fPart8 | apply t_addr fOpd0 | apply t_addr fOpd3 | apply t_addr fOpd4 | apply t_fieldO (fValO _ (by decide)) | apply t_one tIntV | apply t_one tBoolV | apply t_one tStrE | apply t_one tStrsE | apply t_part tVal | apply t_part tOpd) <;> (first | (focus (repeat (first | (apply EvC.gv; exact rfl; (with_reducible first | exact Imp.refl _ | (apply Imp.left; exact Imp.refl _) | (apply Imp.right; exact Imp.refl _) | (apply Imp.left; apply Imp.left; exact Imp.refl _))) | (apply EvC.now; exact rfl) | (with_reducible first | apply EvAll.cons | exact EvAll.nil))); done) | exact rfl | (first | exact ext_val _ | exact ext_partV _ | exact ext_opd _ | exact ext_rdrH _ _ _) | (focus (repeat (first | apply List.Mem.head | apply List.Mem.tail | apply List.mem_append_right))))); (simp only [cS, cZ]; exact rfl); clear hR; intro w hR)
    | ((with_reducible apply wpList_built); exact rfl; exact rfl; exact bOpd2 _ _; (simp only [cS, cZ]; exact rfl))
    | ((with_reducible apply wpList_put hR tPart); exact rfl; exact rfl; exact rfl; (focus (repeat (first | apply List.Mem.head | apply List.Mem.tail | apply List.mem_append_right))); exact put_part _ _; exact rfl; exact Nat.le_refl 14; exact one_part _; (focus (repeat (first | apply Upd.head | apply Upd.tail))); clear hR; intro w hR)
    | ((with_reducible apply wpList_put hR tOpd); exact rfl; exact rfl; exact rfl; (focus (repeat (first | apply List.Mem.head | apply List.Mem.tail | apply List.mem_append_right))); exact put_opd _ _; exact rfl; exact Nat.le_refl 12; exact one_opd _; (focus (repeat (first | apply Upd.head | apply Upd.tail))); clear hR; intro w hR))
    (try simp only [Exit.inBlock, Exit.then])
    exact post_row hR rfl (by rfl) (by (focus (repeat (first | apply List.Mem.head | apply List.Mem.tail | apply List.mem_append_right)))) Tryd.underlying41 rfl iOpd (by rfl) (by rfl) ⟨rfl, hR.below⟩
theorem dataE_any (o : OpdZ) (w0 : World) : Calls Tryd.prog 39 #[.agg (encOp o)] w0 fun e w' => e = .returned (.bool (dataZ o)) ∧ Below w0.heap.size w0 w' := by
  have hR := Own.start w0
  go_enter Tryd.func39, Tryd.ntmps39
  go_upto_region 1 with (first
    | ((with_reducible apply wpList_box hR); exact rfl; exact rfl; clear hR; intro g w hR; simp only [cS, cZ])
    | ((with_reducible apply wpList_make hR zPart); exact rfl; clear hR; intro g w hR; simp only [cS, cZ])
    | ((with_reducible apply wpList_make hR zOpd); exact rfl; clear hR; intro g w hR; simp only [cS, cZ])
    | ((with_reducible apply q_ls hR); exact rfl; ((with_reducible first | apply t_addr fPart0 | apply t_addr fPart1 | apply t_addr fPart2 | apply t_addr fPart3 | apply t_addr fPart4 | apply t_addr fPart5 | apply t_addr fPart6 | apply t_addr fPart7 | apply t_addr fPart8 | apply t_addr fOpd0 | apply t_addr fOpd3 | apply t_addr fOpd4 | apply t_fieldO (fValO _ (by decide)) | apply t_one tIntV | apply t_one tBoolV | apply t_one tStrE | apply t_one tStrsE | apply t_part tVal | apply t_part tOpd) <;> (first | (focus (repeat (first | (apply EvC.gv; exact rfl; (with_reducible first | exact Imp.refl _ | (apply Imp.left; exact Imp.refl _) | (apply Imp.right; exact Imp.refl _) | (apply Imp.left; apply Imp.left; exact Imp.refl _))) | (apply EvC.now; exact rfl) | (with_reducible first | apply EvAll.cons | exact EvAll.nil))); done) | exact rfl | (first | exact ext_val _ | exact ext_partV _ | exact ext_opd _ | exact ext_rdrH _ _ _) | (focus (repeat (first | apply List.Mem.head | apply List.Mem.tail | apply List.mem_append_right))))); (simp only [cS, cZ]; exact rfl); clear hR; intro w hR))
  refine wp_region_tame hR [0, 1, 2, 3, 4, 5, 6, 7, 8, 9, 10, 11, 12, 13, 14, 15, 16, 17, 18, 19, 20] rfl ?_
  repeat (refine wpT_step rfl ?_; first
    | ((first | (with_reducible apply q_pl) | ((with_reducible apply q_gd); (first | (apply GdBy.gt; exact rfl; exact rfl) | (apply GdBy.gf; exact rfl; exact rfl) | (apply GdBy.t; exact rfl; exact rfl) | (apply GdBy.f; exact rfl; exact rfl)))); (first | ((with_reducible first | apply t_move | apply t_assign | apply t_and | apply t_or | apply t_cmp | apply t_not | apply t_addr fPart0 | apply t_addr fPart1 | apply t_addr fPart2 | apply t_addr fPart3 | apply t_addr fPart4 | apply t_addr fPart5 | apply t_addr fPart6 | apply t_addr fPart7 | apply t_addr fPart8 | apply t_addr fOpd0 | apply t_addr fOpd3 | apply t_addr fOpd4 | apply t_fieldO (fValO _ (by decide)) | apply t_one tIntV | apply t_one tBoolV | apply t_one tStrE | apply t_one tStrsE | apply t_part tVal | apply t_part tOpd) <;> (first | (focus (repeat (first | (apply EvC.gv; exact rfl; (with_reducible first | exact Imp.refl _ | (apply Imp.left; exact Imp.refl _) | (apply Imp.right; exact Imp.refl _) | (apply Imp.left; apply Imp.left; exact Imp.refl _))) | (apply EvC.now; exact rfl) | (with_reducible first | apply EvAll.cons | exact EvAll.nil))); done) | exact rfl | (first | exact ext_val _ | exact ext_partV _ | exact ext_opd _ | exact ext_rdrH _ _ _) | (focus (repeat (first | apply List.Mem.head | apply List.Mem.tail | apply List.mem_append_right)))))); (simp only [cS, cZ]; exact rfl))
    | ((with_reducible apply q_gd); (first | (apply GdBy.gt; exact rfl; exact rfl) | (apply GdBy.gf; exact rfl; exact rfl) | (apply GdBy.t; exact rfl; exact rfl) | (apply GdBy.f; exact rfl; exact rfl)); ((with_reducible apply t_num) <;> (first | (focus (repeat (first | (apply EvC.gv; exact rfl; (with_reducible first | exact Imp.refl _ | (apply Imp.left; exact Imp.refl _) | (apply Imp.right; exact Imp.refl _) | (apply Imp.left; apply Imp.left; exact Imp.refl _))) | (apply EvC.now; exact rfl) | (with_reducible first | apply EvAll.cons | exact EvAll.nil))); done) | exact rfl | (first | exact ext_val _ | exact ext_partV _ | exact ext_opd _ | exact ext_rdrH _ _ _) | (focus (repeat (first | apply List.Mem.head | apply List.Mem.tail | apply List.mem_append_right))))); (simp only [cS, cZ]; exact rfl))
    | ((with_reducible apply wpT1_gpure); (first | (apply GdBy.gt; exact rfl; exact rfl) | (apply GdBy.gf; exact rfl; exact rfl) | (apply GdBy.t; exact rfl; exact rfl) | (apply GdBy.f; exact rfl; exact rfl)); intro K hK; go_simp; refine hK _ ?_; clear hK K; simp only [cS, cZ])
    | ((with_reducible apply wpT1_pure); exact rfl; intro K hK; go_simp; refine hK _ ?_; clear hK K; simp only [cS, cZ]))
  refine wpT_nil ?_
  clear hR; intro w hR
  go_wp2_with fail
  go_ret
  exact ⟨rfl, hR.below⟩
/-- An element's place in an array that lies somewhere in a block. -/
theorem run_ixO {P : Program} {ρ : Operand → Value} {o : Oper} {w : World} {ty e : TypeId} {x ix : Operand} {b off n k : Nat} {q : IntKind} {j : Int} (hu : P.underlying ty = some (.array n e)) (hz : (P.info? e).map (·.size) = some k) (ho : o.op = .indexAddr ty x ix)
    (hx : ρ x = .pointer (some ⟨b, off, none⟩)) (hi : ρ ix = .int q j) (hj : 0 ≤ j ∧ j < n) : (execOp ρ o).run P w = .ok (.value (.pointer (some ⟨b, off + j.toNat * k, none⟩))) w := by
  cases hq : P.info? e with
  | none => simp [hq] at hz
  | some inf =>
    have hsz : inf.size = k := by simpa [hq] using hz
    have ha : (⟨b, off, none⟩ : Addr).add (j.toNat * k) = ⟨b, off + j.toNat * k, none⟩ := addr_mid _ _ _
    unfold execOp
    simp [ho, Instr.indexAt, hx, hi, run_underlying hu, Instr.sureAddr, asIntOf, hj, sizeOf, typeInfo, hq, hsz, ha]
section
variable {P : Program} {C : World → Prop} {c : Bool} {dd : Option Tmp} {ls : List Value} {ds : List Deferred} {tp : TypeId} {pos : String} {af : Array Edge} {gd : Option (Nat × Bool)} {ty e : TypeId} {x ix : Operand} {b off n k : Nat} {q : IntKind} {j : Int}
theorem t_ixO (hu : P.underlying ty = some (.array n e)) (hz : (P.info? e).map (·.size) = some k) (hx : EvC ls c x (.pointer (some ⟨b, off, none⟩))) (hi : EvC ls c ix (.int q j)) (hj : 0 ≤ j ∧ j < n) :
    TIf P C c ⟨dd, .indexAddr ty x ix, tp, pos, af, gd⟩ ⟨ls.toArray, ds⟩ (.pointer (some ⟨b, off + j.toNat * k, none⟩)) := ⟨fun h => .inl fun w _ => run_ixO hu hz rfl (eval_of (hx.of h)) (eval_of (hi.of h)) hj⟩
theorem t_ixG (hu : P.underlying ty = some (.array n e)) (hz : (P.info? e).map (·.size) = some k) (hi : EvC ls c ix (.int q j)) (hj : 0 ≤ j ∧ j < n) :
    TIf P C c ⟨dd, .indexAddr ty (.global b) ix, tp, pos, af, gd⟩ ⟨ls.toArray, ds⟩ (.pointer (some ⟨b, 0 + j.toNat * k, none⟩)) := ⟨fun h => .inl fun w _ => run_ixO hu hz rfl rfl (eval_of (hi.of h)) hj⟩
end
theorem iRow3 : (Tryd.prog.info? 80).map (·.size) = some 3 := by kernel_rfl
theorem man_at {a b : Int} (ha : 0 ≤ a ∧ a ≤ 2) (hb : 0 ≤ b ∧ b ≤ 2) : mannersC.toList[0 + a.toNat * 3 + b.toNat * 1]? = some (.int .i64 (mannersZ a b)) := by
  obtain rfl | rfl | rfl : a = 0 ∨ a = 1 ∨ a = 2 := by omega
  all_goals obtain rfl | rfl | rfl : b = 0 ∨ b = 1 ∨ b = 2 := by omega
  all_goals rfl
theorem bImm (p : PartZ) : Built Tryd.prog 41 [(0, .int .i64 4), (2, .int .i64 (mannersZ p.ba p.ix)), (3, .agg (encV p.v)), (4, .int .i64 (orZ p.ki p.v.t)), (5, .int .i64 p.ov), (6, .bool p.sh)] (encOp (immZ p)) := ⟨by kernel_rfl⟩
theorem put_okd (o : OpdZ) (x : Int) : PutRel (encOp o) 0 [.int .i64 x] (encOp { o with kd := x }) := ⟨rfl⟩
set_option maxHeartbeats 8000000 in
theorem operandE_any {w0 : World} (hT : Tabs w0) (p : PartZ) (ha : 0 ≤ p.ba ∧ p.ba ≤ 2) (hb : 0 ≤ p.ix ∧ p.ix ≤ 2) : Calls Tryd.prog 28 #[.agg (encPt p)] w0 fun e w' => e = .returned (.agg (encOp (operandZ p))) ∧ Below w0.heap.size w0 w' := by
  have hR := Own.start w0
  unfold operandZ
  obtain ⟨tM, frM, hM⟩ := hT.man
  have HM := Lib.hid hM
  have HV := Lib.hid (man_at ha hb)
  have HA := Lib.hid ha
  have HB := Lib.hid hb
  clear hM ha hb
  cases hal : p.al
  · rw [cond_false]
    have HAL := Lib.hid hal
    have HD := Lib.hid (dataE_any (immZ p))
    generalize hmd : (p.me || dataZ (immZ p)) = md
    have HMD := Lib.hid hmd
    clear hal hmd
    go_enter Tryd.func28, Tryd.ntmps28
    go_upto_if 5 with (first
    | ((with_reducible apply wpList_box hR); exact rfl; exact rfl; clear hR; intro g w hR; simp only [cS, cZ])
    | ((with_reducible apply wpList_make hR zPart); exact rfl; clear hR; intro g w hR; simp only [cS, cZ])
    | ((with_reducible apply wpList_make hR zOpd); exact rfl; clear hR; intro g w hR; simp only [cS, cZ])
    | ((with_reducible apply q_ls hR); exact rfl; ((with_reducible first | apply t_addr fPart0 | apply t_addr fPart1 | apply t_addr fPart2 | apply t_addr fPart3 | apply t_addr fPart4 | apply t_addr fPart5 | apply t_addr fPart6 | apply t_addr fPart7 | apply t_addr fPart8 | apply t_addr fOpd0 | apply t_addr fOpd3 | apply t_addr fOpd4 | apply t_fieldO (fValO _ (by decide)) | apply t_one tIntV | apply t_one tBoolV | apply t_one tStrE | apply t_one tStrsE | apply t_part tVal | apply t_part tOpd) <;> (first | (focus (repeat (first | (apply EvC.gv; exact rfl; (with_reducible first | exact Imp.refl _ | (apply Imp.left; exact Imp.refl _) | (apply Imp.right; exact Imp.refl _) | (apply Imp.left; apply Imp.left; exact Imp.refl _))) | (apply EvC.now; exact rfl) | (with_reducible first | apply EvAll.cons | exact EvAll.nil))); done) | exact rfl | (first | exact ext_val _ | exact ext_partV _ | exact ext_opd _ | exact ext_rdrH _ _ _) | (focus (repeat (first | apply List.Mem.head | apply List.Mem.tail | apply List.mem_append_right))))); (simp only [cS, cZ]; exact rfl); clear hR; intro w hR))
    refine wp_cond_at (nm := false) rfl HAL.out (fun h => absurd h (by decide)) (fun _ => ?_)
    go_upto_region 3 with fail
    refine wp_region_some hR _ (List.sublist_cons_self _ _) [0, 1, 2, 3, 4, 5, 6, 7, 8, 9, 10, 11, 12, 13, 16, 17, 18, 19] 5 (by kernel_rfl) (by kernel_rfl) (by kernel_rfl) rfl ?_
    clear hR; intro hR
    repeat (refine wpT_step rfl ?_; first
    | ((first | (with_reducible apply q_pl) | ((with_reducible apply q_gd); (first | (apply GdBy.gt; exact rfl; exact rfl) | (apply GdBy.gf; exact rfl; exact rfl) | (apply GdBy.t; exact rfl; exact rfl) | (apply GdBy.f; exact rfl; exact rfl)))); (first | ((with_reducible first | apply t_move | apply t_assign | apply t_and | apply t_or | apply t_cmp | apply t_not | apply t_addr fPart0 | apply t_addr fPart1 | apply t_addr fPart2 | apply t_addr fPart3 | apply t_addr fPart4 | apply t_addr fPart5 | apply t_addr fPart6 | apply t_addr fPart7 | apply t_addr fPart8 | apply t_addr fOpd0 | apply t_addr fOpd3 | apply t_addr fOpd4 | apply t_fieldO (fValO _ (by decide)) | apply t_one tIntV | apply t_one tBoolV | apply t_one tStrE | apply t_one tStrsE | apply t_part tVal | apply t_part tOpd) <;> (first | (focus (repeat (first | (apply EvC.gv; exact rfl; (with_reducible first | exact Imp.refl _ | (apply Imp.left; exact Imp.refl _) | (apply Imp.right; exact Imp.refl _) | (apply Imp.left; apply Imp.left; exact Imp.refl _))) | (apply EvC.now; exact rfl) | (with_reducible first | apply EvAll.cons | exact EvAll.nil))); done) | exact rfl | (first | exact ext_val _ | exact ext_partV _ | exact ext_opd _ | exact ext_rdrH _ _ _) | (focus (repeat (first | apply List.Mem.head | apply List.Mem.tail | apply List.mem_append_right)))))); (simp only [cS, cZ]; exact rfl))
    | ((with_reducible apply q_pl); (with_reducible apply t_ixG Tryd.underlying81 iRow3); (apply EvC.now; exact rfl); (have := HA.out; constructor <;> omega); (simp only [cS, cZ]; exact rfl))
    | ((with_reducible apply q_pl); (with_reducible apply t_ixO Tryd.underlying80 iIntX); (apply EvC.now; exact rfl); (apply EvC.now; exact rfl); (have := HB.out; constructor <;> omega); (simp only [cS, cZ]; exact rfl))
    | ((with_reducible apply q_pl); (with_reducible apply t_old tIntV HM.out); (apply EvC.now; exact rfl); exact HV.out; (simp only [cS, cZ]; exact rfl)))
    refine wpT_nil ?_
    repeat' (first
          | (refine wpG_many hR (rs := [14, 21]) (by decide +kernel) rfl (fun w hR => ⟨?_, ?_, trivial⟩))
          | (refine wpG_many hR (rs := [15, 21]) (by decide +kernel) rfl (fun w hR => ⟨?_, ?_, trivial⟩))
          | (refine wpG_many hR (rs := [20, 21]) (by decide +kernel) rfl (fun w hR => ⟨?_, ?_, trivial⟩))
          | (refine wpG_many hR (rs := [14]) (by decide +kernel) rfl (fun w hR => ⟨?_, trivial⟩))
          | (refine wpG_many hR (rs := [15]) (by decide +kernel) rfl (fun w hR => ⟨?_, trivial⟩))
          | (refine wpG_many hR (rs := [20]) (by decide +kernel) rfl (fun w hR => ⟨?_, trivial⟩))
          | (refine wpG_many hR (rs := [21]) (by decide +kernel) rfl (fun w hR => ⟨?_, trivial⟩))
          | (refine opBuildS hR rfl rfl rfl (bIntsE _ _) ?_; clear hR; intro gk w hR; refine ⟨hR.drop (by (focus (repeat (with_reducible first | exact List.Sublist.slnil | exact List.nil_sublist _ | exact List.Sublist.refl _ | exact List.sublist_append_right _ _ | apply List.Sublist.cons_cons | apply List.Sublist.cons | apply sub_right)))), ?_⟩; simp only [cS, cZ])
          | (refine opCallOk Tryd.call38 rfl rfl rfl ((orE_any _ _ _ (hR.get (by (focus (repeat (first | apply List.Mem.head | apply List.Mem.tail | apply List.mem_append_right)))))).mono ?_); rintro en w' ⟨rfl, hb⟩; refine ⟨_, rfl, (hR.grow hb).drop (by (focus (repeat (with_reducible first | exact List.Sublist.slnil | exact List.nil_sublist _ | exact List.Sublist.refl _ | exact List.sublist_append_right _ _ | apply List.Sublist.cons_cons | apply List.Sublist.cons | apply sub_right)))), ?_⟩; have hR := hR.grow hb; clear hb; simp only [cS, cZ])
          | (refine opQ hR rfl rfl (t_built rfl (bImm p)) (by (simp only [cS, cZ]; exact rfl)) ?_; clear hR; intro w hR; refine ⟨hR.drop (by (focus (repeat (with_reducible first | exact List.Sublist.slnil | exact List.nil_sublist _ | exact List.Sublist.refl _ | exact List.sublist_append_right _ _ | apply List.Sublist.cons_cons | apply List.Sublist.cons | apply sub_right)))), ?_⟩)
          | (refine opMake hR zOpd rfl ?_; clear hR; intro go w hR; refine ⟨hR.drop (by (focus (repeat (with_reducible first | exact List.Sublist.slnil | exact List.nil_sublist _ | exact List.Sublist.refl _ | exact List.sublist_append_right _ _ | apply List.Sublist.cons_cons | apply List.Sublist.cons | apply sub_right)))), ?_⟩; simp only [cS, cZ]))
    all_goals
      refine wpG_put (c := encOp zeroOpd) hR tOpd (i := 22) (by kernel_rfl) rfl rfl rfl (by (focus (repeat (first | apply List.Mem.head | apply List.Mem.tail | apply List.mem_append_right)))) (putList_all rfl) rfl (Nat.le_refl 12) (one_opd _) (by (focus (repeat (first | apply Upd.head | apply Upd.tail)))) (by (focus (repeat (with_reducible first | exact List.Sublist.slnil | exact List.nil_sublist _ | exact List.Sublist.refl _ | exact List.sublist_append_right _ _ | apply List.Sublist.cons_cons | apply List.Sublist.cons | apply sub_right)))) ?_
      clear hR; intro w hR
      refine wpG_end hR (by kernel_rfl) ?_
      clear hR; intro w hR
      go_upto_region 4 with fail
      refine wp_region_tame hR [0, 1, 2, 3, 4, 5] rfl ?_
      repeat (refine wpT_step rfl ?_; first
    | ((first | (with_reducible apply q_pl) | ((with_reducible apply q_gd); (first | (apply GdBy.gt; exact rfl; exact rfl) | (apply GdBy.gf; exact rfl; exact rfl) | (apply GdBy.t; exact rfl; exact rfl) | (apply GdBy.f; exact rfl; exact rfl)))); (first | ((with_reducible first | apply t_move | apply t_assign | apply t_and | apply t_or | apply t_cmp | apply t_not | apply t_addr fPart0 | apply t_addr fPart1 | apply t_addr fPart2 | apply t_addr fPart3 | apply t_addr fPart4 | apply t_addr fPart5 | apply t_addr fPart6 | apply t_addr fPart7 | apply t_addr fPart8 | apply t_addr fOpd0 | apply t_addr fOpd3 | apply t_addr fOpd4 | apply t_fieldO (fValO _ (by decide)) | apply t_one tIntV | apply t_one tBoolV | apply t_one tStrE | apply t_one tStrsE | apply t_part tVal | apply t_part tOpd) <;> (first | (focus (repeat (first | (apply EvC.gv; exact rfl; (with_reducible first | exact Imp.refl _ | (apply Imp.left; exact Imp.refl _) | (apply Imp.right; exact Imp.refl _) | (apply Imp.left; apply Imp.left; exact Imp.refl _))) | (apply EvC.now; exact rfl) | (with_reducible first | apply EvAll.cons | exact EvAll.nil))); done) | exact rfl | (first | exact ext_val _ | exact ext_partV _ | exact ext_opd _ | exact ext_rdrH _ _ _) | (focus (repeat (first | apply List.Mem.head | apply List.Mem.tail | apply List.mem_append_right)))))); (simp only [cS, cZ]; exact rfl))
    | ((first | (with_reducible apply q_pl) | ((with_reducible apply q_gd); (first | (apply GdBy.gt; exact rfl; exact rfl) | (apply GdBy.gf; exact rfl; exact rfl) | (apply GdBy.t; exact rfl; exact rfl) | (apply GdBy.f; exact rfl; exact rfl)))); (with_reducible apply t_call Tryd.call39); (first | (focus (repeat (first | (apply EvC.gv; exact rfl; (with_reducible first | exact Imp.refl _ | (apply Imp.left; exact Imp.refl _) | (apply Imp.right; exact Imp.refl _) | (apply Imp.left; apply Imp.left; exact Imp.refl _))) | (apply EvC.now; exact rfl) | (with_reducible first | apply EvAll.cons | exact EvAll.nil))); done) | exact rfl | (first | exact ext_val _ | exact ext_partV _ | exact ext_opd _ | exact ext_rdrH _ _ _) | (focus (repeat (first | apply List.Mem.head | apply List.Mem.tail | apply List.mem_append_right)))); (intro hcc w hC; exact tame_below (HD.out _) hC); (simp only [cS, cZ]; exact rfl))
    | ((with_reducible apply q_gd); (first | (apply GdBy.gt; exact rfl; exact rfl) | (apply GdBy.gf; exact rfl; exact rfl) | (apply GdBy.t; exact rfl; exact rfl) | (apply GdBy.f; exact rfl; exact rfl)); ((with_reducible apply t_num) <;> (first | (focus (repeat (first | (apply EvC.gv; exact rfl; (with_reducible first | exact Imp.refl _ | (apply Imp.left; exact Imp.refl _) | (apply Imp.right; exact Imp.refl _) | (apply Imp.left; apply Imp.left; exact Imp.refl _))) | (apply EvC.now; exact rfl) | (with_reducible first | apply EvAll.cons | exact EvAll.nil))); done) | exact rfl | (first | exact ext_val _ | exact ext_partV _ | exact ext_opd _ | exact ext_rdrH _ _ _) | (focus (repeat (first | apply List.Mem.head | apply List.Mem.tail | apply List.mem_append_right))))); (simp only [cS, cZ]; exact rfl))
    | ((with_reducible apply wpT1_gpure); (first | (apply GdBy.gt; exact rfl; exact rfl) | (apply GdBy.gf; exact rfl; exact rfl) | (apply GdBy.t; exact rfl; exact rfl) | (apply GdBy.f; exact rfl; exact rfl)); intro K hK; go_simp; refine hK _ ?_; clear hK K; simp only [cS, cZ])
    | ((with_reducible apply wpT1_pure); exact rfl; intro K hK; go_simp; refine hK _ ?_; clear hK K; simp only [cS, cZ]))
      refine wpT_nil ?_
      clear hR; intro w hR
      go_upto_if 35 with fail
      refine wp_cond_at (nm := md) rfl HMD.out (fun h => ?_) (fun h => ?_)
      · subst h
        go_wp2_with (first
    | ((with_reducible apply wpList_put1 hR tIntV); exact rfl; exact rfl; exact rfl; (focus (repeat (first | apply List.Mem.head | apply List.Mem.tail | apply List.mem_append_right))); exact put_okd _ _; (simp [encOp]); exact rfl; (focus (repeat (first | apply Upd.head | apply Upd.tail))); clear hR; intro w hR)
    | ((with_reducible apply wpList_put hR tPart); exact rfl; exact rfl; exact rfl; (focus (repeat (first | apply List.Mem.head | apply List.Mem.tail | apply List.mem_append_right))); exact put_part _ _; exact rfl; exact Nat.le_refl 14; exact one_part _; (focus (repeat (first | apply Upd.head | apply Upd.tail))); clear hR; intro w hR)
    | ((with_reducible apply wpList_put hR tOpd); exact rfl; exact rfl; exact rfl; (focus (repeat (first | apply List.Mem.head | apply List.Mem.tail | apply List.mem_append_right))); exact put_opd _ _; exact rfl; exact Nat.le_refl 12; exact one_opd _; (focus (repeat (first | apply Upd.head | apply Upd.tail))); clear hR; intro w hR)
    | ((with_reducible apply q_ls hR); exact rfl; ((with_reducible first | apply t_addr fPart0 | apply t_addr fPart1 | apply t_addr fPart2 | apply t_addr fPart3 | apply t_addr fPart4 | apply t_addr fPart5 | apply t_addr fPart6 | apply t_addr fPart7 | apply t_addr fPart8 | apply t_addr fOpd0 | apply t_addr fOpd3 | apply t_addr fOpd4 | apply t_fieldO (fValO _ (by decide)) | apply t_one tIntV | apply t_one tBoolV | apply t_one tStrE | apply t_one tStrsE | apply t_part tVal | apply t_part tOpd) <;> (first | (focus (repeat (first | (apply EvC.gv; exact rfl; (with_reducible first | exact Imp.refl _ | (apply Imp.left; exact Imp.refl _) | (apply Imp.right; exact Imp.refl _) | (apply Imp.left; apply Imp.left; exact Imp.refl _))) | (apply EvC.now; exact rfl) | (with_reducible first | apply EvAll.cons | exact EvAll.nil))); done) | exact rfl | (first | exact ext_val _ | exact ext_partV _ | exact ext_opd _ | exact ext_rdrH _ _ _) | (focus (repeat (first | apply List.Mem.head | apply List.Mem.tail | apply List.mem_append_right))))); (simp only [cS, cZ]; exact rfl); clear hR; intro w hR))
        (try simp only [Exit.inBlock, Exit.then])
        exact post_row hR rfl (by rfl) (by (focus (repeat (first | apply List.Mem.head | apply List.Mem.tail | apply List.mem_append_right)))) Tryd.underlying41 rfl iOpd (by rfl) (by rfl) ⟨rfl, hR.below⟩
      · subst h
        go_wp2_with (first
    | ((with_reducible apply wpList_put hR tPart); exact rfl; exact rfl; exact rfl; (focus (repeat (first | apply List.Mem.head | apply List.Mem.tail | apply List.mem_append_right))); exact put_part _ _; exact rfl; exact Nat.le_refl 14; exact one_part _; (focus (repeat (first | apply Upd.head | apply Upd.tail))); clear hR; intro w hR)
    | ((with_reducible apply wpList_put hR tOpd); exact rfl; exact rfl; exact rfl; (focus (repeat (first | apply List.Mem.head | apply List.Mem.tail | apply List.mem_append_right))); exact put_opd _ _; exact rfl; exact Nat.le_refl 12; exact one_opd _; (focus (repeat (first | apply Upd.head | apply Upd.tail))); clear hR; intro w hR)
    | ((with_reducible apply q_ls hR); exact rfl; ((with_reducible first | apply t_addr fPart0 | apply t_addr fPart1 | apply t_addr fPart2 | apply t_addr fPart3 | apply t_addr fPart4 | apply t_addr fPart5 | apply t_addr fPart6 | apply t_addr fPart7 | apply t_addr fPart8 | apply t_addr fOpd0 | apply t_addr fOpd3 | apply t_addr fOpd4 | apply t_fieldO (fValO _ (by decide)) | apply t_one tIntV | apply t_one tBoolV | apply t_one tStrE | apply t_one tStrsE | apply t_part tVal | apply t_part tOpd) <;> (first | (focus (repeat (first | (apply EvC.gv; exact rfl; (with_reducible first | exact Imp.refl _ | (apply Imp.left; exact Imp.refl _) | (apply Imp.right; exact Imp.refl _) | (apply Imp.left; apply Imp.left; exact Imp.refl _))) | (apply EvC.now; exact rfl) | (with_reducible first | apply EvAll.cons | exact EvAll.nil))); done) | exact rfl | (first | exact ext_val _ | exact ext_partV _ | exact ext_opd _ | exact ext_rdrH _ _ _) | (focus (repeat (first | apply List.Mem.head | apply List.Mem.tail | apply List.mem_append_right))))); (simp only [cS, cZ]; exact rfl); clear hR; intro w hR))
        (try simp only [Exit.inBlock, Exit.then])
        exact post_row hR rfl (by rfl) (by (focus (repeat (first | apply List.Mem.head | apply List.Mem.tail | apply List.mem_append_right)))) Tryd.underlying41 rfl iOpd (by rfl) (by rfl) ⟨rfl, hR.below⟩
  · rw [cond_true]
    have HAL := Lib.hid hal
    clear hal
    go_enter Tryd.func28, Tryd.ntmps28
    go_upto_if 5 with (first
    | ((with_reducible apply wpList_box hR); exact rfl; exact rfl; clear hR; intro g w hR; simp only [cS, cZ])
    | ((with_reducible apply wpList_make hR zPart); exact rfl; clear hR; intro g w hR; simp only [cS, cZ])
    | ((with_reducible apply wpList_make hR zOpd); exact rfl; clear hR; intro g w hR; simp only [cS, cZ])
    | ((with_reducible apply q_ls hR); exact rfl; ((with_reducible first | apply t_addr fPart0 | apply t_addr fPart1 | apply t_addr fPart2 | apply t_addr fPart3 | apply t_addr fPart4 | apply t_addr fPart5 | apply t_addr fPart6 | apply t_addr fPart7 | apply t_addr fPart8 | apply t_addr fOpd0 | apply t_addr fOpd3 | apply t_addr fOpd4 | apply t_fieldO (fValO _ (by decide)) | apply t_one tIntV | apply t_one tBoolV | apply t_one tStrE | apply t_one tStrsE | apply t_part tVal | apply t_part tOpd) <;> (first | (focus (repeat (first | (apply EvC.gv; exact rfl; (with_reducible first | exact Imp.refl _ | (apply Imp.left; exact Imp.refl _) | (apply Imp.right; exact Imp.refl _) | (apply Imp.left; apply Imp.left; exact Imp.refl _))) | (apply EvC.now; exact rfl) | (with_reducible first | apply EvAll.cons | exact EvAll.nil))); done) | exact rfl | (first | exact ext_val _ | exact ext_partV _ | exact ext_opd _ | exact ext_rdrH _ _ _) | (focus (repeat (first | apply List.Mem.head | apply List.Mem.tail | apply List.mem_append_right))))); (simp only [cS, cZ]; exact rfl); clear hR; intro w hR))
    refine wp_cond_at (nm := true) rfl HAL.out (fun _ => ?_) (fun h => absurd h (by decide))
    go_wp2_with (first
    | ((with_reducible apply q_ls hR); exact rfl; ((with_reducible first | apply t_addr fPart0 | apply t_addr fPart1 | apply t_addr fPart2 | apply t_addr fPart3 | apply t_addr fPart4 | apply t_addr fPart5 | apply t_addr fPart6 | apply t_addr fPart7 | apply t_addr fPart8 | apply t_addr fOpd0 | apply t_addr fOpd3 | apply t_addr fOpd4 | apply t_fieldO (fValO _ (by decide)) | apply t_one tIntV | apply t_one tBoolV | apply t_one tStrE | apply t_one tStrsE | apply t_part tVal | apply t_part tOpd) <;> (first | (focus (repeat (first | (apply EvC.gv; exact rfl; (with_reducible first | exact Imp.refl _ | (apply Imp.left; exact Imp.refl _) | (apply Imp.right; exact Imp.refl _) | (apply Imp.left; apply Imp.left; exact Imp.refl _))) | (apply EvC.now; exact rfl) | (with_reducible first | apply EvAll.cons | exact EvAll.nil))); done) | exact rfl | (first | exact ext_val _ | exact ext_partV _ | exact ext_opd _ | exact ext_rdrH _ _ _) | (focus (repeat (first | apply List.Mem.head | apply List.Mem.tail | apply List.mem_append_right))))); (simp only [cS, cZ]; exact rfl); clear hR; intro w hR)
    | (go_at_call 37; refine (namedOE_any _ _).mono ?_; rintro e w' ⟨rfl, hb⟩; replace hR := hR.grow hb; clear hb)
    | ((with_reducible apply wpList_put hR tPart); exact rfl; exact rfl; exact rfl; (focus (repeat (first | apply List.Mem.head | apply List.Mem.tail | apply List.mem_append_right))); exact put_part _ _; exact rfl; exact Nat.le_refl 14; exact one_part _; (focus (repeat (first | apply Upd.head | apply Upd.tail))); clear hR; intro w hR)
    | ((with_reducible apply wpList_put hR tOpd); exact rfl; exact rfl; exact rfl; (focus (repeat (first | apply List.Mem.head | apply List.Mem.tail | apply List.mem_append_right))); exact put_opd _ _; exact rfl; exact Nat.le_refl 12; exact one_opd _; (focus (repeat (first | apply Upd.head | apply Upd.tail))); clear hR; intro w hR))
    (try simp only [Exit.inBlock, Exit.then])
    exact post_row hR rfl (by rfl) (by (focus (repeat (first | apply List.Mem.head | apply List.Mem.tail | apply List.mem_append_right)))) Tryd.underlying41 rfl iOpd (by rfl) (by rfl) ⟨rfl, hR.below⟩
end Go.Proofs.YtckkgooabnlooaaDoor
