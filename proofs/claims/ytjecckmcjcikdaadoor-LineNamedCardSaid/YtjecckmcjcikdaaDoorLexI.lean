








/- The contract of lex.piece. No statement of the seat is proved here. -/
import Derived.Test.YtjecckmcjcikdaaDoorLexH
namespace Go.Proofs.YtjecckmcjcikdaaDoor
open Go.ChangeShapes Go.WideShapes Go.ChangeAt Go.RowKit
set_option linter.unusedVariables false
set_option linter.unusedSimpArgs false

theorem signsZ_ok : bytesOk signsZ := ascii.ok (ascii_of rfl)
theorem lSIGNS : (⟨#[43, 45, 42, 47, 40, 41, 91, 93, 44, 58, 46, 61]⟩ : ByteArray) = strOfNums signsZ := rfl
set_option maxHeartbeats 4000000 in
set_option maxRecDepth 100000 in
theorem piece_any {s : List Int} (hne : s ≠ []) (hs : ascii s) (hl : s.length ≤ 1000) (w0 : World) :
    Calls Tryd.prog 23 #[.string (strOfNums s)] w0 fun e w' => e = .returned (pieceT (pieceZ s)) ∧ Below w0.heap.size w0 w' := by
  have hR := Own.start w0
  cases s with
  | nil => exact absurd rfl hne
  | cons c r =>
  have hcb := hs c (.head _)
  have hsk := hs.ok
  have HC := Lib.hid (show (c :: r)[0]? = some c from rfl)
  have HW := Lib.hid (show IntKind.i32.wrap c = c from IntWalk.i32_in _ (by omega))
  have HDIG := Lib.hid (digitL_any c)
  have HNAM := Lib.hid (namedL_any hcb)
  have hn0 := numPiece_any hs hl
  unfold pieceT at hn0
  have HNUM := Lib.hid hn0
  clear hn0
  have HRUN := Lib.hid (run_any namedL_is hsk (fun _ => hs))
  have hq0 := quoted_any hs (by rw [List.length_cons] at hl; omega)
  unfold pieceT at hq0
  have HQUO := Lib.hid hq0
  clear hq0
  have HHAS := Lib.hid (hasL_any signsZ_ok hcb)
  have hn := runZ_le namedZ (c :: r)
  have hta := hs.take (runZ namedZ (c :: r))
  have htl : ((c :: r).take (runZ namedZ (c :: r))).length ≤ 1000000 := by rw [List.length_take]; omega
  have HUP := Lib.hid (upper_any hta.ok htl)
  have hz : pieceZ (c :: r) = if digitZ c then numPieceZ (c :: r)
    else if namedZ c then (⟨1, upS ((c :: r).take (runZ namedZ (c :: r))), 0, 0⟩, runZ namedZ (c :: r))
    else if c = 39 ∨ c = 34 then quoteZ c r
    else if hasB signsZ c then (⟨4, [c], 0, 0⟩, 1) else (noTok, 0) := rfl
  rw [hz]
  clear hz
  generalize runZ namedZ (c :: r) = n at *
  generalize quoteZ c r = qz at *
  generalize numPieceZ (c :: r) = nz at *
  generalize hcr : c :: r = s at *
  generalize hT : s.take n = t at *
  have HT := Lib.hid hT
  clear hT hcr
  cases hd : digitZ c
  · rw [hd] at HDIG
    rw [if_neg (fun h => nomatch h)]
    cases hnm : namedZ c
    · rw [hnm] at HNAM
      rw [if_neg (fun h => nomatch h)]
      by_cases hq : c = 39 ∨ c = 34
      · rw [if_pos hq]
        have HQ1 := Lib.hid (show cmpB .eql c 39 = some (decide (c = 39)) from congrArg some (by rw [Bool.eq_iff_iff]; simp))
        rcases hq with rfl | rfl
        · go_enter Tryd.func23, Tryd.ntmps23
          go_wp2_with (first
    | ((with_reducible apply wpList_make hR zTok); exact rfl; clear hR; intro g w hR; simp only [List.set_cons_succ, List.set_cons_zero])
    | ((with_reducible apply q_ls hR); exact rfl; (with_reducible apply t_atN Tryd.underlying9 hsk (k := 0)); (apply EvC.now; exact rfl); (apply EvC.now; exact rfl); exact rfl; exact HC.out; (simp only [List.set_cons_succ, List.set_cons_zero]; exact rfl); clear hR; intro w hR)
    | ((with_reducible apply q_ls hR); exact rfl; (with_reducible apply t_conv Tryd.underlying5 Tryd.underlying21); (apply EvC.now; exact rfl); exact HW.out; (simp only [List.set_cons_succ, List.set_cons_zero]; exact rfl); clear hR; intro w hR)
    | (go_at_call 28; refine (HDIG.out _).mono ?_; rintro e w' ⟨rfl, rfl⟩)
    | (go_at_call 30; refine (HNAM.out _).mono ?_; rintro e w' ⟨rfl, rfl⟩)
    | (go_at_call 32; refine (HQUO.out _).mono ?_; rintro e w' ⟨rfl, hb⟩; replace hR := hR.grow hb; clear hb)
    | ((with_reducible apply wpList_put hR tTok); exact rfl; exact rfl; exact rfl; (focus (repeat (first | apply List.Mem.head | apply List.Mem.tail | apply List.mem_append_right))); exact putList_all rfl; exact rfl; (exact Nat.le_refl 4); exact one_tok _; (focus (repeat (first | apply Upd.head | apply Upd.tail))); clear hR; intro w hR))
          (try simp only [Exit.inBlock, Exit.then])
          exact post_row_tmp hR rfl (by rfl) (by rfl) (by (focus (repeat (first | apply List.Mem.head | apply List.Mem.tail | apply List.mem_append_right)))) Tryd.underlying30 rfl iTok (by rfl) (by rfl) ⟨rfl, hR.below⟩
        · go_enter Tryd.func23, Tryd.ntmps23
          go_wp2_with (first
    | ((with_reducible apply wpList_make hR zTok); exact rfl; clear hR; intro g w hR; simp only [List.set_cons_succ, List.set_cons_zero])
    | ((with_reducible apply q_ls hR); exact rfl; (with_reducible apply t_atN Tryd.underlying9 hsk (k := 0)); (apply EvC.now; exact rfl); (apply EvC.now; exact rfl); exact rfl; exact HC.out; (simp only [List.set_cons_succ, List.set_cons_zero]; exact rfl); clear hR; intro w hR)
    | ((with_reducible apply q_ls hR); exact rfl; (with_reducible apply t_conv Tryd.underlying5 Tryd.underlying21); (apply EvC.now; exact rfl); exact HW.out; (simp only [List.set_cons_succ, List.set_cons_zero]; exact rfl); clear hR; intro w hR)
    | (go_at_call 28; refine (HDIG.out _).mono ?_; rintro e w' ⟨rfl, rfl⟩)
    | (go_at_call 30; refine (HNAM.out _).mono ?_; rintro e w' ⟨rfl, rfl⟩)
    | (go_at_call 32; refine (HQUO.out _).mono ?_; rintro e w' ⟨rfl, hb⟩; replace hR := hR.grow hb; clear hb)
    | ((with_reducible apply wpList_put hR tTok); exact rfl; exact rfl; exact rfl; (focus (repeat (first | apply List.Mem.head | apply List.Mem.tail | apply List.mem_append_right))); exact putList_all rfl; exact rfl; (exact Nat.le_refl 4); exact one_tok _; (focus (repeat (first | apply Upd.head | apply Upd.tail))); clear hR; intro w hR))
          (try simp only [Exit.inBlock, Exit.then])
          exact post_row_tmp hR rfl (by rfl) (by rfl) (by (focus (repeat (first | apply List.Mem.head | apply List.Mem.tail | apply List.mem_append_right)))) Tryd.underlying30 rfl iTok (by rfl) (by rfl) ⟨rfl, hR.below⟩
      · rw [if_neg hq]
        have HQ1 := Lib.hid (show cmpB .eql c 39 = some false from congrArg some (beq_eq_false_iff_ne.2 (fun h => hq (.inl h))))
        have HQ2 := Lib.hid (show cmpB .eql c 34 = some false from congrArg some (beq_eq_false_iff_ne.2 (fun h => hq (.inr h))))
        clear hq
        cases hh : hasB signsZ c
        · rw [hh] at HHAS
          rw [if_neg (fun h => nomatch h)]
          go_enter Tryd.func23, Tryd.ntmps23
          go_wp2_with (first
    | ((with_reducible apply wpList_make hR zTok); exact rfl; clear hR; intro g w hR; simp only [List.set_cons_succ, List.set_cons_zero])
    | ((with_reducible apply q_ls hR); exact rfl; (with_reducible apply t_atN Tryd.underlying9 hsk (k := 0)); (apply EvC.now; exact rfl); (apply EvC.now; exact rfl); exact rfl; exact HC.out; (simp only [List.set_cons_succ, List.set_cons_zero]; exact rfl); clear hR; intro w hR)
    | ((with_reducible apply q_ls hR); exact rfl; (with_reducible apply t_conv Tryd.underlying5 Tryd.underlying21); (apply EvC.now; exact rfl); exact HW.out; (simp only [List.set_cons_succ, List.set_cons_zero]; exact rfl); clear hR; intro w hR)
    | (go_at_call 28; refine (HDIG.out _).mono ?_; rintro e w' ⟨rfl, rfl⟩)
    | (go_at_call 30; refine (HNAM.out _).mono ?_; rintro e w' ⟨rfl, rfl⟩)
    | ((with_reducible apply q_ls hR); exact rfl; (with_reducible apply t_cmp); (apply EvC.now; exact rfl); (apply EvC.now; exact rfl); (with_reducible first | exact HQ1.out | exact HQ2.out); (simp only [List.set_cons_succ, List.set_cons_zero]; exact rfl); clear hR; intro w hR)
    | (go_at_call 33; refine (HHAS.out _).mono ?_; rintro e w' ⟨rfl, rfl⟩)
    | ((with_reducible apply wpList_make hR zTok); exact rfl; clear hR; intro g w hR; simp only [List.set_cons_succ, List.set_cons_zero])
    | ((with_reducible apply wpList_built); exact rfl; exact rfl; exact bTok0; (simp only [List.set_cons_succ, List.set_cons_zero]; exact rfl))
    | ((with_reducible apply wpList_put hR tTok); exact rfl; exact rfl; exact rfl; (focus (repeat (first | apply List.Mem.head | apply List.Mem.tail | apply List.mem_append_right))); exact putList_all rfl; exact rfl; (exact Nat.le_refl 4); exact one_tok _; (focus (repeat (first | apply Upd.head | apply Upd.tail))); clear hR; intro w hR))
          (try simp only [Exit.inBlock, Exit.then])
          exact post_row_tmp hR rfl (by rfl) (by rfl) (by (focus (repeat (first | apply List.Mem.head | apply List.Mem.tail | apply List.mem_append_right)))) Tryd.underlying30 rfl iTok (by rfl) (by rfl) ⟨rfl, hR.below⟩
        · rw [hh] at HHAS
          rw [if_pos rfl]
          go_enter Tryd.func23, Tryd.ntmps23
          go_wp2_with (first
    | ((with_reducible apply wpList_make hR zTok); exact rfl; clear hR; intro g w hR; simp only [List.set_cons_succ, List.set_cons_zero])
    | ((with_reducible apply q_ls hR); exact rfl; (with_reducible apply t_atN Tryd.underlying9 hsk (k := 0)); (apply EvC.now; exact rfl); (apply EvC.now; exact rfl); exact rfl; exact HC.out; (simp only [List.set_cons_succ, List.set_cons_zero]; exact rfl); clear hR; intro w hR)
    | ((with_reducible apply q_ls hR); exact rfl; (with_reducible apply t_conv Tryd.underlying5 Tryd.underlying21); (apply EvC.now; exact rfl); exact HW.out; (simp only [List.set_cons_succ, List.set_cons_zero]; exact rfl); clear hR; intro w hR)
    | (go_at_call 28; refine (HDIG.out _).mono ?_; rintro e w' ⟨rfl, rfl⟩)
    | (go_at_call 30; refine (HNAM.out _).mono ?_; rintro e w' ⟨rfl, rfl⟩)
    | ((with_reducible apply q_ls hR); exact rfl; (with_reducible apply t_cmp); (apply EvC.now; exact rfl); (apply EvC.now; exact rfl); (with_reducible first | exact HQ1.out | exact HQ2.out); (simp only [List.set_cons_succ, List.set_cons_zero]; exact rfl); clear hR; intro w hR)
    | (go_at_call 33; refine (HHAS.out _).mono ?_; rintro e w' ⟨rfl, rfl⟩)
    | ((with_reducible apply q_ls hR); exact rfl; (with_reducible apply t_letter rfl Tryd.underlying9); (apply EvC.now; exact rfl); exact hcb; (simp only [List.set_cons_succ, List.set_cons_zero]; exact rfl); clear hR; intro w hR)
    | ((with_reducible apply wpList_make hR zTok); exact rfl; clear hR; intro g w hR; simp only [List.set_cons_succ, List.set_cons_zero])
    | ((with_reducible apply wpList_built); exact rfl; exact rfl; exact bTokS _ _; (simp only [List.set_cons_succ, List.set_cons_zero]; exact rfl))
    | ((with_reducible apply wpList_put hR tTok); exact rfl; exact rfl; exact rfl; (focus (repeat (first | apply List.Mem.head | apply List.Mem.tail | apply List.mem_append_right))); exact putList_all rfl; exact rfl; (exact Nat.le_refl 4); exact one_tok _; (focus (repeat (first | apply Upd.head | apply Upd.tail))); clear hR; intro w hR))
          (try simp only [Exit.inBlock, Exit.then])
          exact post_row_tmp hR rfl (by rfl) (by rfl) (by (focus (repeat (first | apply List.Mem.head | apply List.Mem.tail | apply List.mem_append_right)))) Tryd.underlying30 rfl iTok (by rfl) (by rfl) ⟨rfl, hR.below⟩
    · rw [hnm] at HNAM
      rw [if_pos rfl]
      go_enter Tryd.func23, Tryd.ntmps23
      go_wp2_with (first
    | ((with_reducible apply wpList_make hR zTok); exact rfl; clear hR; intro g w hR; simp only [List.set_cons_succ, List.set_cons_zero])
    | ((with_reducible apply q_ls hR); exact rfl; (with_reducible apply t_atN Tryd.underlying9 hsk (k := 0)); (apply EvC.now; exact rfl); (apply EvC.now; exact rfl); exact rfl; exact HC.out; (simp only [List.set_cons_succ, List.set_cons_zero]; exact rfl); clear hR; intro w hR)
    | ((with_reducible apply q_ls hR); exact rfl; (with_reducible apply t_conv Tryd.underlying5 Tryd.underlying21); (apply EvC.now; exact rfl); exact HW.out; (simp only [List.set_cons_succ, List.set_cons_zero]; exact rfl); clear hR; intro w hR)
    | (go_at_call 28; refine (HDIG.out _).mono ?_; rintro e w' ⟨rfl, rfl⟩)
    | (go_at_call 30; refine (HNAM.out _).mono ?_; rintro e w' ⟨rfl, rfl⟩)
    | (go_at_call 20; refine (HRUN.out _).mono ?_; rintro e w' ⟨rfl, hb⟩; replace hR := hR.grow hb; clear hb)
    | ((with_reducible apply q_ls hR); exact rfl; (with_reducible apply t_takeE Tryd.underlying9 (k := n)); (apply EvC.now; exact rfl); (apply EvC.now; exact rfl); exact rfl; exact hn; exact HT.out; (simp only [List.set_cons_succ, List.set_cons_zero]; exact rfl); clear hR; intro w hR)
    | (go_at_call 31; refine (HUP.out _).mono ?_; rintro e w' ⟨rfl, hb⟩; replace hR := hR.grow hb; clear hb)
    | ((with_reducible apply wpList_make hR zTok); exact rfl; clear hR; intro g w hR; simp only [List.set_cons_succ, List.set_cons_zero])
    | ((with_reducible apply wpList_built); exact rfl; exact rfl; exact bTokS _ _; (simp only [List.set_cons_succ, List.set_cons_zero]; exact rfl))
    | ((with_reducible apply wpList_put hR tTok); exact rfl; exact rfl; exact rfl; (focus (repeat (first | apply List.Mem.head | apply List.Mem.tail | apply List.mem_append_right))); exact putList_all rfl; exact rfl; (exact Nat.le_refl 4); exact one_tok _; (focus (repeat (first | apply Upd.head | apply Upd.tail))); clear hR; intro w hR))
      (try simp only [Exit.inBlock, Exit.then])
      exact post_row_tmp hR rfl (by rfl) (by rfl) (by (focus (repeat (first | apply List.Mem.head | apply List.Mem.tail | apply List.mem_append_right)))) Tryd.underlying30 rfl iTok (by rfl) (by rfl) ⟨rfl, hR.below⟩
  · rw [hd] at HDIG
    rw [if_pos rfl]
    go_enter Tryd.func23, Tryd.ntmps23
    go_wp2_with (first
    | ((with_reducible apply wpList_make hR zTok); exact rfl; clear hR; intro g w hR; simp only [List.set_cons_succ, List.set_cons_zero])
    | ((with_reducible apply q_ls hR); exact rfl; (with_reducible apply t_atN Tryd.underlying9 hsk (k := 0)); (apply EvC.now; exact rfl); (apply EvC.now; exact rfl); exact rfl; exact HC.out; (simp only [List.set_cons_succ, List.set_cons_zero]; exact rfl); clear hR; intro w hR)
    | ((with_reducible apply q_ls hR); exact rfl; (with_reducible apply t_conv Tryd.underlying5 Tryd.underlying21); (apply EvC.now; exact rfl); exact HW.out; (simp only [List.set_cons_succ, List.set_cons_zero]; exact rfl); clear hR; intro w hR)
    | (go_at_call 28; refine (HDIG.out _).mono ?_; rintro e w' ⟨rfl, rfl⟩)
    | (go_at_call 29; refine (HNUM.out _).mono ?_; rintro e w' ⟨rfl, hb⟩; replace hR := hR.grow hb; clear hb)
    | ((with_reducible apply wpList_put hR tTok); exact rfl; exact rfl; exact rfl; (focus (repeat (first | apply List.Mem.head | apply List.Mem.tail | apply List.mem_append_right))); exact putList_all rfl; exact rfl; (exact Nat.le_refl 4); exact one_tok _; (focus (repeat (first | apply Upd.head | apply Upd.tail))); clear hR; intro w hR))
    (try simp only [Exit.inBlock, Exit.then])
    exact post_row_tmp hR rfl (by rfl) (by rfl) (by (focus (repeat (first | apply List.Mem.head | apply List.Mem.tail | apply List.mem_append_right)))) Tryd.underlying30 rfl iTok (by rfl) (by rfl) ⟨rfl, hR.below⟩
end Go.Proofs.YtjecckmcjcikdaaDoor
