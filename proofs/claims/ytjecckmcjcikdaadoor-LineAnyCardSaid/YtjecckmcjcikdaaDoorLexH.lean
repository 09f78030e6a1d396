








/- The contracts of lex.quoted, lex.number, lex.piece. No statement of the seat is proved here. -/
import Derived.Test.YtjecckmcjcikdaaDoorLexT
import Derived.Test.YtjecckmcjcikdaaDoorLexF
import Derived.Test.YtjecckmcjcikdaaDoorLexG
import Derived.Deep.DeepCutAuto
import Derived.Deep.CutBlock
namespace Go.Proofs.YtjecckmcjcikdaaDoor
open Go.ChangeShapes Go.WideShapes Go.ChangeAt Go.RowKit
set_option linter.unusedVariables false
set_option linter.unusedSimpArgs false

/-- What a piece's function answers. -/
def pieceT (p : TokZ × Nat) : Value := .tuple #[.agg (encTok p.1), .int .i64 (p.2 : Int)]
set_option maxHeartbeats 2000000 in
theorem quoted_any {c : Int} {r : List Int} (hs : ascii (c :: r)) (hl : r.length ≤ 1000) (w0 : World) :
    Calls Tryd.prog 32 #[.string (strOfNums (c :: r))] w0 fun e w' => e = .returned (pieceT (quoteZ c r)) ∧ Below w0.heap.size w0 w' := by
  have hR := Own.start w0
  have hcb := hs c (.head _)
  have hsk := hs.ok
  have hrk : bytesOk r := fun x hx => hsk x (.tail _ hx)
  have HC := Lib.hid (show (c :: r)[0]? = some c from rfl)
  have HD := Lib.hid (show (c :: r).drop 1 = r from rfl)
  have h1 : 1 ≤ (c :: r).length := by rw [List.length_cons]; omega
  have hIX := indexByteL_any hrk (x := c) (by omega)
  have hge := idxB_ge r c
  have hlt := idxB_lt r c
  have hq : quoteZ c r = if idxB r c < 0 then (noTok, 0) else (⟨3, r.take (idxB r c).toNat, 0, 0⟩, (idxB r c).toNat + 2) := rfl
  have HM := fun (n : Nat) (h : n ≤ r.length) => (show ((c :: r).drop 1).take (n + 1 - 1) = r.take n from rfl)
  have hsl : (c :: r).length = r.length + 1 := rfl
  rw [hq]
  clear hq
  generalize idxB r c = d at *
  generalize hcr : c :: r = s at *
  clear hcr
  by_cases hd : d < 0
  · rw [if_pos hd]
    have HL := Lib.hid (show cmpB .lss d 0 = some true from congrArg some (decide_eq_true hd))
    have HI := Lib.hid hIX
    clear hIX HM
    go_enter Tryd.func32, Tryd.ntmps32
    go_upto_region 1 with (first
    | ((with_reducible apply wpList_make hR zTok); exact rfl; clear hR; intro g w hR; simp only [List.set_cons_succ, List.set_cons_zero]))
    refine wp_region_rows hR [0, 1, 2, 3, 4, 5] 0 (by kernel_rfl) (by kernel_rfl) (by kernel_rfl) rfl ?_
    clear hR; intro hR
    repeat (refine wpT_step rfl ?_; first
    | ((with_reducible apply q_pl); (with_reducible apply t_dropE Tryd.underlying9 (k := 1)); (apply EvC.now; exact rfl); (apply EvC.now; exact rfl); exact rfl; exact h1; exact HD.out; (simp only [List.set_cons_succ, List.set_cons_zero]; exact rfl))
    | ((with_reducible apply q_pl); (with_reducible apply t_atN Tryd.underlying9 hsk (k := 0)); (apply EvC.now; exact rfl); (apply EvC.now; exact rfl); exact rfl; exact HC.out; (simp only [List.set_cons_succ, List.set_cons_zero]; exact rfl))
    | ((first | (with_reducible apply q_pl) | ((with_reducible apply q_gd); (first | (apply GdBy.gt; exact rfl; exact rfl) | (apply GdBy.gf; exact rfl; exact rfl) | (apply GdBy.t; exact rfl; exact rfl) | (apply GdBy.f; exact rfl; exact rfl)))); (with_reducible apply t_call Tryd.call38); (first | (apply EvC.gv; exact rfl; (with_reducible first | exact Imp.refl _ | (apply Imp.left; exact Imp.refl _) | (apply Imp.right; exact Imp.refl _) | (apply Imp.left; apply Imp.left; exact Imp.refl _))) | (apply EvC.now; exact rfl) | exact rfl | (with_reducible exact EvAll.nil) | (focus (repeat (first | apply EvAll.cons | exact EvAll.nil | (apply EvC.gv; exact rfl; (with_reducible first | exact Imp.refl _ | (apply Imp.left; exact Imp.refl _) | (apply Imp.right; exact Imp.refl _) | (apply Imp.left; apply Imp.left; exact Imp.refl _))) | (apply EvC.now; exact rfl))); done) | exact rfl | (focus (repeat (first | apply List.Mem.head | apply List.Mem.tail | apply List.mem_append_right)))); (intro hcc w hC; exact (HI.out _).mono (by rintro e w' ⟨rfl, rfl⟩; exact ⟨rfl, Below.refl _ _, hC⟩)); (simp only [List.set_cons_succ, List.set_cons_zero]; exact rfl))
    | ((first | (with_reducible apply q_pl) | ((with_reducible apply q_gd); (first | (apply GdBy.gt; exact rfl; exact rfl) | (apply GdBy.gf; exact rfl; exact rfl) | (apply GdBy.t; exact rfl; exact rfl) | (apply GdBy.f; exact rfl; exact rfl)))); (first | ((with_reducible first | apply t_move | apply t_assign | apply t_and | apply t_or | apply t_cmp | apply t_not | fail | fail) <;> (first | (apply EvC.gv; exact rfl; (with_reducible first | exact Imp.refl _ | (apply Imp.left; exact Imp.refl _) | (apply Imp.right; exact Imp.refl _) | (apply Imp.left; apply Imp.left; exact Imp.refl _))) | (apply EvC.now; exact rfl) | exact rfl | (with_reducible exact EvAll.nil) | (focus (repeat (first | apply EvAll.cons | exact EvAll.nil | (apply EvC.gv; exact rfl; (with_reducible first | exact Imp.refl _ | (apply Imp.left; exact Imp.refl _) | (apply Imp.right; exact Imp.refl _) | (apply Imp.left; apply Imp.left; exact Imp.refl _))) | (apply EvC.now; exact rfl))); done) | exact rfl | (focus (repeat (first | apply List.Mem.head | apply List.Mem.tail | apply List.mem_append_right)))))); (simp only [List.set_cons_succ, List.set_cons_zero]; exact rfl)))
    refine wpG_end hR (by kernel_rfl) ?_
    clear hR; intro w hR
    go_wp2_with (first
    | ((with_reducible apply q_ls hR); exact rfl; (with_reducible apply t_cmp); (apply EvC.now; exact rfl); (apply EvC.now; exact rfl); exact HL.out; (simp only [List.set_cons_succ, List.set_cons_zero]; exact rfl); clear hR; intro w hR)
    | ((with_reducible apply wpList_make hR zTok); exact rfl; clear hR; intro g w hR; simp only [List.set_cons_succ, List.set_cons_zero])
    | ((with_reducible apply wpList_built); exact rfl; exact rfl; exact bTok0; (simp only [List.set_cons_succ, List.set_cons_zero]; exact rfl))
    | ((with_reducible apply wpList_put hR tTok); exact rfl; exact rfl; exact rfl; (focus (repeat (first | apply List.Mem.head | apply List.Mem.tail | apply List.mem_append_right))); exact putList_all rfl; exact rfl; (exact Nat.le_refl 4); exact one_tok _; (focus (repeat (first | apply Upd.head | apply Upd.tail))); clear hR; intro w hR))
    (try simp only [Exit.inBlock, Exit.then])
    exact post_row_tmp hR rfl (by rfl) (by rfl) (by (focus (repeat (first | apply List.Mem.head | apply List.Mem.tail | apply List.mem_append_right)))) Tryd.underlying30 rfl iTok (by rfl) (by rfl) ⟨rfl, hR.below⟩
  · rw [if_neg hd]
    obtain ⟨n, rfl⟩ := Int.eq_ofNat_of_zero_le (show 0 ≤ d by omega)
    have HL := Lib.hid (show cmpB .lss (n : Int) 0 = some false from congrArg some (decide_eq_false hd))
    have HI := Lib.hid hIX
    rw [Int.toNat_natCast]
    have HT := Lib.hid (HM n (by omega))
    have HA := Lib.hid (show IntKind.i64.wrap ((n : Int) + 1) = ((n + 1 : Nat) : Int) by rw [IntWalk.i64_in _ (by omega)]; omega)
    have HB := Lib.hid (show IntKind.i64.wrap ((n : Int) + 2) = ((n + 2 : Nat) : Int) by rw [IntWalk.i64_in _ (by omega)]; omega)
    have htl : (r.take n).length ≤ 1000000 := by rw [List.length_take]; omega
    have htk : (strOfNums (r.take n)).size ≤ 1000000 := by rw [strOf_len]; exact htl
    have hns : n + 1 ≤ s.length := by omega
    generalize r.take n = u at *
    clear hIX HM
    go_enter Tryd.func32, Tryd.ntmps32
    go_upto_region 1 with (first
    | ((with_reducible apply wpList_make hR zTok); exact rfl; clear hR; intro g w hR; simp only [List.set_cons_succ, List.set_cons_zero]))
    refine wp_region_rows hR [0, 1, 2, 3, 4, 5] 0 (by kernel_rfl) (by kernel_rfl) (by kernel_rfl) rfl ?_
    clear hR; intro hR
    repeat (refine wpT_step rfl ?_; first
    | ((with_reducible apply q_pl); (with_reducible apply t_dropE Tryd.underlying9 (k := 1)); (apply EvC.now; exact rfl); (apply EvC.now; exact rfl); exact rfl; exact h1; exact HD.out; (simp only [List.set_cons_succ, List.set_cons_zero]; exact rfl))
    | ((with_reducible apply q_pl); (with_reducible apply t_atN Tryd.underlying9 hsk (k := 0)); (apply EvC.now; exact rfl); (apply EvC.now; exact rfl); exact rfl; exact HC.out; (simp only [List.set_cons_succ, List.set_cons_zero]; exact rfl))
    | ((first | (with_reducible apply q_pl) | ((with_reducible apply q_gd); (first | (apply GdBy.gt; exact rfl; exact rfl) | (apply GdBy.gf; exact rfl; exact rfl) | (apply GdBy.t; exact rfl; exact rfl) | (apply GdBy.f; exact rfl; exact rfl)))); (with_reducible apply t_call Tryd.call38); (first | (apply EvC.gv; exact rfl; (with_reducible first | exact Imp.refl _ | (apply Imp.left; exact Imp.refl _) | (apply Imp.right; exact Imp.refl _) | (apply Imp.left; apply Imp.left; exact Imp.refl _))) | (apply EvC.now; exact rfl) | exact rfl | (with_reducible exact EvAll.nil) | (focus (repeat (first | apply EvAll.cons | exact EvAll.nil | (apply EvC.gv; exact rfl; (with_reducible first | exact Imp.refl _ | (apply Imp.left; exact Imp.refl _) | (apply Imp.right; exact Imp.refl _) | (apply Imp.left; apply Imp.left; exact Imp.refl _))) | (apply EvC.now; exact rfl))); done) | exact rfl | (focus (repeat (first | apply List.Mem.head | apply List.Mem.tail | apply List.mem_append_right)))); (intro hcc w hC; exact (HI.out _).mono (by rintro e w' ⟨rfl, rfl⟩; exact ⟨rfl, Below.refl _ _, hC⟩)); (simp only [List.set_cons_succ, List.set_cons_zero]; exact rfl))
    | ((first | (with_reducible apply q_pl) | ((with_reducible apply q_gd); (first | (apply GdBy.gt; exact rfl; exact rfl) | (apply GdBy.gf; exact rfl; exact rfl) | (apply GdBy.t; exact rfl; exact rfl) | (apply GdBy.f; exact rfl; exact rfl)))); (first | ((with_reducible first | apply t_move | apply t_assign | apply t_and | apply t_or | apply t_cmp | apply t_not | fail | fail) <;> (first | (apply EvC.gv; exact rfl; (with_reducible first | exact Imp.refl _ | (apply Imp.left; exact Imp.refl _) | (apply Imp.right; exact Imp.refl _) | (apply Imp.left; apply Imp.left; exact Imp.refl _))) | (apply EvC.now; exact rfl) | exact rfl | (with_reducible exact EvAll.nil) | (focus (repeat (first | apply EvAll.cons | exact EvAll.nil | (apply EvC.gv; exact rfl; (with_reducible first | exact Imp.refl _ | (apply Imp.left; exact Imp.refl _) | (apply Imp.right; exact Imp.refl _) | (apply Imp.left; apply Imp.left; exact Imp.refl _))) | (apply EvC.now; exact rfl))); done) | exact rfl | (focus (repeat (first | apply List.Mem.head | apply List.Mem.tail | apply List.mem_append_right)))))); (simp only [List.set_cons_succ, List.set_cons_zero]; exact rfl)))
    refine wpG_end hR (by kernel_rfl) ?_
    clear hR; intro w hR
    go_wp2_with (first
    | ((with_reducible apply q_ls hR); exact rfl; (with_reducible apply t_cmp); (apply EvC.now; exact rfl); (apply EvC.now; exact rfl); exact HL.out; (simp only [List.set_cons_succ, List.set_cons_zero]; exact rfl); clear hR; intro w hR)
    | ((with_reducible apply q_ls hR); exact rfl; (with_reducible apply t_numE (op := .add)); (apply EvC.now; exact rfl); (apply EvC.now; exact rfl); exact rfl; (with_reducible first | exact HA.out | exact HB.out); (simp only [List.set_cons_succ, List.set_cons_zero]; exact rfl); clear hR; intro w hR)
    | ((with_reducible apply q_ls hR); exact rfl; (with_reducible apply t_midE Tryd.underlying9 (a := 1) (b := n + 1)); (apply EvC.now; exact rfl); (apply EvC.now; exact rfl); (apply EvC.now; exact rfl); exact rfl; exact rfl; omega; exact hns; exact HT.out; (simp only [List.set_cons_succ, List.set_cons_zero]; exact rfl); clear hR; intro w hR)
    | (go_at_call 39; refine (clone_any _ htk _).mono ?_; rintro e w' ⟨rfl, hb⟩; replace hR := hR.grow hb; clear hb)
    | ((with_reducible apply wpList_make hR zTok); exact rfl; clear hR; intro g w hR; simp only [List.set_cons_succ, List.set_cons_zero])
    | ((with_reducible apply wpList_built); exact rfl; exact rfl; exact bTokS _ _; (simp only [List.set_cons_succ, List.set_cons_zero]; exact rfl))
    | ((with_reducible apply wpList_put hR tTok); exact rfl; exact rfl; exact rfl; (focus (repeat (first | apply List.Mem.head | apply List.Mem.tail | apply List.mem_append_right))); exact putList_all rfl; exact rfl; (exact Nat.le_refl 4); exact one_tok _; (focus (repeat (first | apply Upd.head | apply Upd.tail))); clear hR; intro w hR))
    (try simp only [Exit.inBlock, Exit.then])
    exact post_row_tmp hR rfl (by rfl) (by rfl) (by (focus (repeat (first | apply List.Mem.head | apply List.Mem.tail | apply List.mem_append_right)))) Tryd.underlying30 rfl iTok (by rfl) (by rfl) ⟨rfl, hR.below⟩
/-! ### A number -/
theorem number_no {s : List Int} (hs : ascii s) (hl : s.length ≤ 1000000) (h : numberZ s = none) (w0 : World) :
    Calls Tryd.prog 37 #[.string (strOfNums s)] w0 fun e w' => e = .returned (.tuple #[.int .u64 0, .bool false]) ∧ Below w0.heap.size w0 w' := by
  have := number_any hs hl w0
  rw [h] at this
  exact this
theorem number_yes {s : List Int} (hs : ascii s) (hl : s.length ≤ 1000000) {n : Nat} (h : numberZ s = some n) (w0 : World) :
    Calls Tryd.prog 37 #[.string (strOfNums s)] w0 fun e w' => e = .returned (.tuple #[.int .u64 (n : Int), .bool true]) ∧ Below w0.heap.size w0 w' := by
  have := number_any hs hl w0
  rw [h] at this
  exact this
set_option maxHeartbeats 4000000 in
set_option maxRecDepth 100000 in
theorem numPiece_any {s : List Int} (hs : ascii s) (hl : s.length ≤ 1000) (w0 : World) :
    Calls Tryd.prog 29 #[.string (strOfNums s)] w0 fun e w' => e = .returned (pieceT (numPieceZ s)) ∧ Below w0.heap.size w0 w' := by
  have hR := Own.start w0
  have hsk := hs.ok
  have HRUN := Lib.hid (run_any countL_is hsk (fun h => nomatch h))
  have hn := runZ_le countZ s
  unfold numPieceZ
  generalize runZ countZ s = n at *
  have hta := hs.take n
  have htl : (s.take n).length ≤ 1000000 := by rw [List.length_take]; omega
  generalize hT : s.take n = t at *
  have HT := Lib.hid hT
  clear hT
  cases hnum : numberZ t with
  | none =>
    have HNUM := Lib.hid (number_no hta htl hnum)
    go_enter Tryd.func29, Tryd.ntmps29
    go_wp2_with (first
    | (go_at_call 20; refine (HRUN.out _).mono ?_; rintro e w' ⟨rfl, hb⟩; replace hR := hR.grow hb; clear hb)
    | ((with_reducible apply q_ls hR); exact rfl; (with_reducible apply t_takeE Tryd.underlying9 (k := n)); (apply EvC.now; exact rfl); (apply EvC.now; exact rfl); exact rfl; exact hn; exact HT.out; (simp only [List.set_cons_succ, List.set_cons_zero]; exact rfl); clear hR; intro w hR)
    | (go_at_call 37; refine (HNUM.out _).mono ?_; rintro e w' ⟨rfl, hb⟩; replace hR := hR.grow hb; clear hb)
    | ((with_reducible apply wpList_make hR zTok); exact rfl; clear hR; intro g w hR; simp only [List.set_cons_succ, List.set_cons_zero])
    | ((with_reducible apply wpList_built); exact rfl; exact rfl; exact bTok0; (simp only [List.set_cons_succ, List.set_cons_zero]; exact rfl))
    | ((with_reducible apply wpList_put hR tTok); exact rfl; exact rfl; exact rfl; (focus (repeat (first | apply List.Mem.head | apply List.Mem.tail | apply List.mem_append_right))); exact putList_all rfl; exact rfl; (exact Nat.le_refl 4); exact one_tok _; (focus (repeat (first | apply Upd.head | apply Upd.tail))); clear hR; intro w hR))
    (try simp only [Exit.inBlock, Exit.then])
    exact post_row_tmp hR rfl (by rfl) (by rfl) (by (focus (repeat (first | apply List.Mem.head | apply List.Mem.tail | apply List.mem_append_right)))) Tryd.underlying30 rfl iTok (by rfl) (by rfl) ⟨rfl, hR.below⟩
  | some a =>
    dsimp only
    have HNUM := Lib.hid (number_yes hta htl hnum)
    clear hnum
    cases hx : s[n]? with
    | none =>
      rw [if_neg (fun h => nomatch h)]
      have hnl : n = s.length := by have := List.getElem?_eq_none_iff.1 hx; omega
      have HE := Lib.hid (show cmpB .eql (n : Int) (s.length : Int) = some true from congrArg some (beq_iff_eq.2 (by omega)))
      have HP := HE
      have HX := HE
      clear hx hnl
      go_enter Tryd.func29, Tryd.ntmps29
      go_wp2_with (first
    | (go_at_call 20; refine (HRUN.out _).mono ?_; rintro e w' ⟨rfl, hb⟩; replace hR := hR.grow hb; clear hb)
    | ((with_reducible apply q_ls hR); exact rfl; (with_reducible apply t_takeE Tryd.underlying9 (k := n)); (apply EvC.now; exact rfl); (apply EvC.now; exact rfl); exact rfl; exact hn; exact HT.out; (simp only [List.set_cons_succ, List.set_cons_zero]; exact rfl); clear hR; intro w hR)
    | (go_at_call 37; refine (HNUM.out _).mono ?_; rintro e w' ⟨rfl, hb⟩; replace hR := hR.grow hb; clear hb)
    | ((with_reducible apply q_ls hR); exact rfl; (with_reducible apply t_lenN Tryd.underlying9); (apply EvC.now; exact rfl); (simp only [List.set_cons_succ, List.set_cons_zero]; exact rfl); clear hR; intro w hR)
    | ((with_reducible apply q_ls hR); exact rfl; (with_reducible apply t_cmp); (apply EvC.now; exact rfl); (apply EvC.now; exact rfl); exact HE.out; (simp only [List.set_cons_succ, List.set_cons_zero]; exact rfl); clear hR; intro w hR)
    | ((with_reducible apply wpList_make hR zTok); exact rfl; clear hR; intro g w hR; simp only [List.set_cons_succ, List.set_cons_zero])
    | ((with_reducible apply wpList_built); exact rfl; exact rfl; exact bTokN _ _; (simp only [List.set_cons_succ, List.set_cons_zero]; exact rfl))
    | ((with_reducible apply wpList_put hR tTok); exact rfl; exact rfl; exact rfl; (focus (repeat (first | apply List.Mem.head | apply List.Mem.tail | apply List.mem_append_right))); exact putList_all rfl; exact rfl; (exact Nat.le_refl 4); exact one_tok _; (focus (repeat (first | apply Upd.head | apply Upd.tail))); clear hR; intro w hR))
      (try simp only [Exit.inBlock, Exit.then])
      exact post_row_tmp hR rfl (by rfl) (by rfl) (by (focus (repeat (first | apply List.Mem.head | apply List.Mem.tail | apply List.mem_append_right)))) Tryd.underlying30 rfl iTok (by rfl) (by rfl) ⟨rfl, hR.below⟩
    | some x =>
      have hnl : n < s.length := (List.getElem?_eq_some_iff.1 hx).1
      have HE := Lib.hid (show cmpB .eql (n : Int) (s.length : Int) = some false from congrArg some (beq_eq_false_iff_ne.2 (by omega)))
      have HX := Lib.hid hx
      clear hx
      by_cases hx37 : x = 37
      · subst hx37
        rw [if_pos rfl]
        have HP := Lib.hid (show cmpB .neq 37 37 = some false from rfl)
        have HA := Lib.hid (show IntKind.i64.wrap ((n : Int) + 1) = ((n + 1 : Nat) : Int) by rw [IntWalk.i64_in _ (by omega)]; omega)
        have hn1 : n + 1 ≤ s.length := hnl
        have hdk := (hs.drop (n + 1))
        have hdl : (s.drop (n + 1)).length = s.length - (n + 1) := List.length_drop
        have HRUN2 := Lib.hid (run_any countL_is hdk.ok (fun h => nomatch h))
        have hm := runZ_le countZ (s.drop (n + 1))
        generalize hD : s.drop (n + 1) = r at *
        generalize runZ countZ r = m at *
        have HD := Lib.hid hD
        have hnm : n + 1 + m ≤ s.length := by omega
        have HB := Lib.hid (show IntKind.i64.wrap (((n + 1 : Nat) : Int) + (m : Int)) = ((n + 1 + m : Nat) : Int) by rw [IntWalk.i64_in _ (by omega)]; omega)
        have hua := hdk.take m
        have hul : (r.take m).length ≤ 1000000 := by rw [List.length_take]; omega
        have HM := Lib.hid (show (s.drop (n + 1)).take (n + 1 + m - (n + 1)) = r.take m by rw [hD, Nat.add_sub_cancel_left])
        generalize r.take m = u at *
        clear hD hdl hdk
        cases hnum2 : numberZ u with
        | none =>
          have HNUM2 := Lib.hid (number_no hua hul hnum2)
          clear hnum2
          go_enter Tryd.func29, Tryd.ntmps29
          go_upto_region 8 with (first
    | (go_at_call 20; refine (HRUN.out _).mono ?_; rintro e w' ⟨rfl, hb⟩; replace hR := hR.grow hb; clear hb)
    | ((with_reducible apply q_ls hR); exact rfl; (with_reducible apply t_takeE Tryd.underlying9 (k := n)); (apply EvC.now; exact rfl); (apply EvC.now; exact rfl); exact rfl; exact hn; exact HT.out; (simp only [List.set_cons_succ, List.set_cons_zero]; exact rfl); clear hR; intro w hR)
    | (go_at_call 37; refine (HNUM.out _).mono ?_; rintro e w' ⟨rfl, hb⟩; replace hR := hR.grow hb; clear hb)
    | ((with_reducible apply q_ls hR); exact rfl; (with_reducible apply t_lenN Tryd.underlying9); (apply EvC.now; exact rfl); (simp only [List.set_cons_succ, List.set_cons_zero]; exact rfl); clear hR; intro w hR)
    | ((with_reducible apply q_ls hR); exact rfl; (with_reducible apply t_cmp); (apply EvC.now; exact rfl); (apply EvC.now; exact rfl); (with_reducible first | exact HE.out | exact HP.out); (simp only [List.set_cons_succ, List.set_cons_zero]; exact rfl); clear hR; intro w hR)
    | ((with_reducible apply q_ls hR); exact rfl; (with_reducible apply t_atN Tryd.underlying9 hsk (k := n)); (apply EvC.now; exact rfl); (apply EvC.now; exact rfl); exact rfl; exact HX.out; (simp only [List.set_cons_succ, List.set_cons_zero]; exact rfl); clear hR; intro w hR)
    | ((with_reducible apply q_ls hR); exact rfl; (with_reducible apply t_numE (op := .add)); (apply EvC.now; exact rfl); (apply EvC.now; exact rfl); exact rfl; exact HA.out; (simp only [List.set_cons_succ, List.set_cons_zero]; exact rfl); clear hR; intro w hR)
    | ((with_reducible apply wpList_make hR zTok); exact rfl; clear hR; intro g w hR; simp only [List.set_cons_succ, List.set_cons_zero])
    | ((with_reducible apply wpList_built); exact rfl; exact rfl; exact bTok0; (simp only [List.set_cons_succ, List.set_cons_zero]; exact rfl))
    | ((with_reducible apply wpList_put hR tTok); exact rfl; exact rfl; exact rfl; (focus (repeat (first | apply List.Mem.head | apply List.Mem.tail | apply List.mem_append_right))); exact putList_all rfl; exact rfl; (exact Nat.le_refl 4); exact one_tok _; (focus (repeat (first | apply Upd.head | apply Upd.tail))); clear hR; intro w hR))
          go_wp2_with (first
    | ((with_reducible apply q_ls hR); exact rfl; (with_reducible apply t_numE (op := .add)); (apply EvC.now; exact rfl); (apply EvC.now; exact rfl); exact rfl; (with_reducible first | exact HA.out | exact HB.out); (simp only [List.set_cons_succ, List.set_cons_zero]; exact rfl); clear hR; intro w hR)
    | ((with_reducible apply q_ls hR); exact rfl; (with_reducible apply t_dropE Tryd.underlying9 (k := n + 1)); (apply EvC.now; exact rfl); (apply EvC.now; exact rfl); exact rfl; exact hn1; exact HD.out; (simp only [List.set_cons_succ, List.set_cons_zero]; exact rfl); clear hR; intro w hR)
    | (go_at_call 20; refine (HRUN2.out _).mono ?_; rintro e w' ⟨rfl, hb⟩; replace hR := hR.grow hb; clear hb)
    | ((with_reducible apply q_ls hR); exact rfl; (with_reducible apply t_midE Tryd.underlying9 (a := n + 1) (b := n + 1 + m)); (apply EvC.now; exact rfl); (apply EvC.now; exact rfl); (apply EvC.now; exact rfl); exact rfl; exact rfl; omega; exact hnm; exact HM.out; (simp only [List.set_cons_succ, List.set_cons_zero]; exact rfl); clear hR; intro w hR)
    | (go_at_call 37; refine (HNUM2.out _).mono ?_; rintro e w' ⟨rfl, hb⟩; replace hR := hR.grow hb; clear hb)
    | ((with_reducible apply wpList_make hR zTok); exact rfl; clear hR; intro g w hR; simp only [List.set_cons_succ, List.set_cons_zero])
    | ((with_reducible apply wpList_built); exact rfl; exact rfl; exact bTok0; (simp only [List.set_cons_succ, List.set_cons_zero]; exact rfl))
    | ((with_reducible apply wpList_put hR tTok); exact rfl; exact rfl; exact rfl; (focus (repeat (first | apply List.Mem.head | apply List.Mem.tail | apply List.mem_append_right))); exact putList_all rfl; exact rfl; (exact Nat.le_refl 4); exact one_tok _; (focus (repeat (first | apply Upd.head | apply Upd.tail))); clear hR; intro w hR))
          (try simp only [Exit.inBlock, Exit.then])
          exact post_row_tmp hR rfl (by rfl) (by rfl) (by (focus (repeat (first | apply List.Mem.head | apply List.Mem.tail | apply List.mem_append_right)))) Tryd.underlying30 rfl iTok (by rfl) (by rfl) ⟨rfl, hR.below⟩
        | some d =>
          have HNUM2 := Lib.hid (number_yes hua hul hnum2)
          clear hnum2
          go_enter Tryd.func29, Tryd.ntmps29
          go_upto_region 8 with (first
    | (go_at_call 20; refine (HRUN.out _).mono ?_; rintro e w' ⟨rfl, hb⟩; replace hR := hR.grow hb; clear hb)
    | ((with_reducible apply q_ls hR); exact rfl; (with_reducible apply t_takeE Tryd.underlying9 (k := n)); (apply EvC.now; exact rfl); (apply EvC.now; exact rfl); exact rfl; exact hn; exact HT.out; (simp only [List.set_cons_succ, List.set_cons_zero]; exact rfl); clear hR; intro w hR)
    | (go_at_call 37; refine (HNUM.out _).mono ?_; rintro e w' ⟨rfl, hb⟩; replace hR := hR.grow hb; clear hb)
    | ((with_reducible apply q_ls hR); exact rfl; (with_reducible apply t_lenN Tryd.underlying9); (apply EvC.now; exact rfl); (simp only [List.set_cons_succ, List.set_cons_zero]; exact rfl); clear hR; intro w hR)
    | ((with_reducible apply q_ls hR); exact rfl; (with_reducible apply t_cmp); (apply EvC.now; exact rfl); (apply EvC.now; exact rfl); (with_reducible first | exact HE.out | exact HP.out); (simp only [List.set_cons_succ, List.set_cons_zero]; exact rfl); clear hR; intro w hR)
    | ((with_reducible apply q_ls hR); exact rfl; (with_reducible apply t_atN Tryd.underlying9 hsk (k := n)); (apply EvC.now; exact rfl); (apply EvC.now; exact rfl); exact rfl; exact HX.out; (simp only [List.set_cons_succ, List.set_cons_zero]; exact rfl); clear hR; intro w hR)
    | ((with_reducible apply q_ls hR); exact rfl; (with_reducible apply t_numE (op := .add)); (apply EvC.now; exact rfl); (apply EvC.now; exact rfl); exact rfl; exact HA.out; (simp only [List.set_cons_succ, List.set_cons_zero]; exact rfl); clear hR; intro w hR)
    | ((with_reducible apply wpList_make hR zTok); exact rfl; clear hR; intro g w hR; simp only [List.set_cons_succ, List.set_cons_zero])
    | ((with_reducible apply wpList_built); exact rfl; exact rfl; exact bTok0; (simp only [List.set_cons_succ, List.set_cons_zero]; exact rfl))
    | ((with_reducible apply wpList_put hR tTok); exact rfl; exact rfl; exact rfl; (focus (repeat (first | apply List.Mem.head | apply List.Mem.tail | apply List.mem_append_right))); exact putList_all rfl; exact rfl; (exact Nat.le_refl 4); exact one_tok _; (focus (repeat (first | apply Upd.head | apply Upd.tail))); clear hR; intro w hR))
          go_wp2_with (first
    | ((with_reducible apply q_ls hR); exact rfl; (with_reducible apply t_numE (op := .add)); (apply EvC.now; exact rfl); (apply EvC.now; exact rfl); exact rfl; (with_reducible first | exact HA.out | exact HB.out); (simp only [List.set_cons_succ, List.set_cons_zero]; exact rfl); clear hR; intro w hR)
    | ((with_reducible apply q_ls hR); exact rfl; (with_reducible apply t_dropE Tryd.underlying9 (k := n + 1)); (apply EvC.now; exact rfl); (apply EvC.now; exact rfl); exact rfl; exact hn1; exact HD.out; (simp only [List.set_cons_succ, List.set_cons_zero]; exact rfl); clear hR; intro w hR)
    | (go_at_call 20; refine (HRUN2.out _).mono ?_; rintro e w' ⟨rfl, hb⟩; replace hR := hR.grow hb; clear hb)
    | ((with_reducible apply q_ls hR); exact rfl; (with_reducible apply t_midE Tryd.underlying9 (a := n + 1) (b := n + 1 + m)); (apply EvC.now; exact rfl); (apply EvC.now; exact rfl); (apply EvC.now; exact rfl); exact rfl; exact rfl; omega; exact hnm; exact HM.out; (simp only [List.set_cons_succ, List.set_cons_zero]; exact rfl); clear hR; intro w hR)
    | (go_at_call 37; refine (HNUM2.out _).mono ?_; rintro e w' ⟨rfl, hb⟩; replace hR := hR.grow hb; clear hb)
    | ((with_reducible apply wpList_make hR zTok); exact rfl; clear hR; intro g w hR; simp only [List.set_cons_succ, List.set_cons_zero])
    | ((with_reducible apply wpList_built); exact rfl; exact rfl; exact bTokD _ _ _; (simp only [List.set_cons_succ, List.set_cons_zero]; exact rfl))
    | ((with_reducible apply wpList_put hR tTok); exact rfl; exact rfl; exact rfl; (focus (repeat (first | apply List.Mem.head | apply List.Mem.tail | apply List.mem_append_right))); exact putList_all rfl; exact rfl; (exact Nat.le_refl 4); exact one_tok _; (focus (repeat (first | apply Upd.head | apply Upd.tail))); clear hR; intro w hR))
          (try simp only [Exit.inBlock, Exit.then])
          exact post_row_tmp hR rfl (by rfl) (by rfl) (by (focus (repeat (first | apply List.Mem.head | apply List.Mem.tail | apply List.mem_append_right)))) Tryd.underlying30 rfl iTok (by rfl) (by rfl) ⟨rfl, hR.below⟩
      · rw [if_neg (fun h => hx37 (Option.some.inj h))]
        have HP := Lib.hid (show cmpB .neq x 37 = some true from congrArg some (by simp [hx37]))
        go_enter Tryd.func29, Tryd.ntmps29
        go_wp2_with (first
    | (go_at_call 20; refine (HRUN.out _).mono ?_; rintro e w' ⟨rfl, hb⟩; replace hR := hR.grow hb; clear hb)
    | ((with_reducible apply q_ls hR); exact rfl; (with_reducible apply t_takeE Tryd.underlying9 (k := n)); (apply EvC.now; exact rfl); (apply EvC.now; exact rfl); exact rfl; exact hn; exact HT.out; (simp only [List.set_cons_succ, List.set_cons_zero]; exact rfl); clear hR; intro w hR)
    | (go_at_call 37; refine (HNUM.out _).mono ?_; rintro e w' ⟨rfl, hb⟩; replace hR := hR.grow hb; clear hb)
    | ((with_reducible apply q_ls hR); exact rfl; (with_reducible apply t_lenN Tryd.underlying9); (apply EvC.now; exact rfl); (simp only [List.set_cons_succ, List.set_cons_zero]; exact rfl); clear hR; intro w hR)
    | ((with_reducible apply q_ls hR); exact rfl; (with_reducible apply t_cmp); (apply EvC.now; exact rfl); (apply EvC.now; exact rfl); (with_reducible first | exact HE.out | exact HP.out); (simp only [List.set_cons_succ, List.set_cons_zero]; exact rfl); clear hR; intro w hR)
    | ((with_reducible apply q_ls hR); exact rfl; (with_reducible apply t_atN Tryd.underlying9 hsk (k := n)); (apply EvC.now; exact rfl); (apply EvC.now; exact rfl); exact rfl; exact HX.out; (simp only [List.set_cons_succ, List.set_cons_zero]; exact rfl); clear hR; intro w hR)
    | ((with_reducible apply wpList_make hR zTok); exact rfl; clear hR; intro g w hR; simp only [List.set_cons_succ, List.set_cons_zero])
    | ((with_reducible apply wpList_built); exact rfl; exact rfl; exact bTokN _ _; (simp only [List.set_cons_succ, List.set_cons_zero]; exact rfl))
    | ((with_reducible apply wpList_put hR tTok); exact rfl; exact rfl; exact rfl; (focus (repeat (first | apply List.Mem.head | apply List.Mem.tail | apply List.mem_append_right))); exact putList_all rfl; exact rfl; (exact Nat.le_refl 4); exact one_tok _; (focus (repeat (first | apply Upd.head | apply Upd.tail))); clear hR; intro w hR))
        (try simp only [Exit.inBlock, Exit.then])
        exact post_row_tmp hR rfl (by rfl) (by rfl) (by (focus (repeat (first | apply List.Mem.head | apply List.Mem.tail | apply List.mem_append_right)))) Tryd.underlying30 rfl iTok (by rfl) (by rfl) ⟨rfl, hR.below⟩
end Go.Proofs.YtjecckmcjcikdaaDoor
