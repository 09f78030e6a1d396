





/- The contract of the document's own shifts, bit by bit: Shift of hansomref08, for turns by what goes out. No statement of the seat is proved here. -/
import Derived.Test.YtcplcjfkehogkaaShiftR
namespace Go.Proofs.Ytcplcjfkehogkaa
open Go.ChangeShapes Go.WideShapes Go.ChangeAt Go.RowKit
set_option linter.unusedVariables false
set_option linter.unusedSimpArgs false

set_option maxHeartbeats 8000000 in
set_option maxRecDepth 100000 in
theorem shiftR_63 (x n was : Nat) (wide : Bool) (w0 : World) (hx : x ≤ 65535) (hn : n ≤ 255) (hw : was ≤ 65535) :
    Calls Try.prog 7 #[.int .i64 63, .int .u16 x, .int .i64 n, .int .u16 was, .bool wide] w0 fun e w' => e = .returned (.tuple #[.int .u16 (shV 63 wide x n was : Nat), .int .u16 (shF 63 wide x n was)]) ∧ Below w0.heap.size w0 w' := by
  have hR := Own.start w0
  have ht := topN_le wide
  have hsz : sizeN wide ≤ 16 ∧ 8 ≤ sizeN wide := by cases wide <;> decide
  go_enter Try.func7, Try.ntmps7
  go_wp2_with (first
    | (go_at_call 18; refine (size_any _ _).mono ?_; rintro e w' ⟨rfl, rfl⟩)
    | ((with_reducible apply wpList_buildS hR); exact rfl; exact rfl; (first | exact bI0 | exact bI1 _); clear hR; intro g w hR; simp only [List.set_cons_succ, List.set_cons_zero])
    | ((with_reducible apply wpList_appN hR tInts.k); exact rfl; exact rfl; exact rfl; exact hS; (focus (repeat (with_reducible first | apply Les.head | apply Les.tail))); (focus (repeat (first | apply List.Mem.head | apply List.Mem.tail | apply List.mem_append_right))); (exact Part.oneI _); exact rfl; exact rfl; omega; clear hR hS; intro s v w hR hS; simp only [List.set_cons_succ, List.set_cons_zero]))
  go_loopw [13, 14] (fun vb vi wr => ∃ (k : Nat) (xs : List Nat), UpIs w0 wide x vb vi wr k xs) (fun _ i _ => sizeN wide - (intOf i).toNat)
  case atStart => exact ⟨0, [], up_start w0 wide x hR⟩
  case round =>
    clear hR
    obtain ⟨k, xs, ⟨hk, rfl, hl, hone, hsum, ⟨s, hR, hS⟩⟩⟩ := hrel
    by_cases hlt : k < sizeN wide
    · have HN := Lib.hid (bits_next (V := x) hl hsum)
      have HL := Lib.hid hl
      have HO := Lib.hid hone
      have h1 := bitN_le x k
      rw [hl] at hS
      clear hsum hl hone
      generalize hb : bitN x k = y at *
      go_wp2_with (first
    | (go_at_call 18; refine (size_any _ _).mono ?_; rintro e w' ⟨rfl, rfl⟩)
    | ((with_reducible apply wpList_buildS hR); exact rfl; exact rfl; (first | exact bI0 | exact bI1 _); clear hR; intro g w hR; simp only [List.set_cons_succ, List.set_cons_zero])
    | ((with_reducible apply wpList_appN hR tInts.k); exact rfl; exact rfl; exact rfl; exact hS; (focus (repeat (with_reducible first | apply Les.head | apply Les.tail))); (focus (repeat (first | apply List.Mem.head | apply List.Mem.tail | apply List.mem_append_right))); (exact Part.oneI _); exact rfl; exact rfl; omega; clear hR hS; intro s v w hR hS; simp only [List.set_cons_succ, List.set_cons_zero])
    | (go_at_call 19; refine (bit_any _ k _ (by omega) (by omega)).mono ?_; rintro e w' ⟨rfl, rfl⟩; rw [hb]))
      go_roundw
      case rel =>
        exact ⟨k + 1, xs ++ [y], ⟨by omega, val_int (by omega), by rw [List.length_append, HL.out]; rfl, ones_snoc HO.out (by omega), HN.out, BitsIs.of hR (by (focus (repeat (with_reducible first | apply Les.head | apply Les.tail)))) hS (by rw [List.length_append, HL.out]; rfl) (by rw [cellsN_snoc])⟩⟩
      case measure => simp [intOf]; omega
    · have e : k = sizeN wide := by omega
      subst e
      obtain ⟨g, cap, cur, rfl, hrow, hO⟩ := BitsIs.row ⟨s, hR, hS⟩ (by intro e; rw [e] at hl; simp at hl; omega)
      have hcut : ofN xs = cutN wide x := by
        rw [hsum]; cases wide
        · rfl
        · show x % 65536 = x; omega
      clear hR hS hsum
      have hR := hO
      clear hO
      rw [hl] at hrow ⊢
      have HW := Lib.hid (and_one hw)
      by_cases hn0 : n = 0
      · subst hn0
        have hsrc := Lib.hid (src_row hR (.head _) hrow)
        have HOF := Lib.hid (fun w (h : SrcI w ⟨g, 0, none⟩ xs) => of_any xs ⟨g, 0, none⟩ cap w h hone (by omega))
        rw [hl, hcut] at HOF
        go_wp2_with (first
    | (go_at_call 20; refine (HOF.out _ hsrc.out).mono ?_; rintro e w' ⟨rfl, hb⟩; replace hR := hR.grow hb; clear hb))
        go_ret2
        exact ⟨rfl, hR.below⟩
      · go_upto_if 47 with (first
    | (go_at_call 18; refine (size_any _ _).mono ?_; rintro e w' ⟨rfl, rfl⟩)
    | ((with_reducible apply wpList_buildS hR); exact rfl; exact rfl; (first | exact bI0 | exact bI1 _); clear hR; intro g w hR; simp only [List.set_cons_succ, List.set_cons_zero])
    | ((with_reducible apply wpList_appN hR tInts.k); exact rfl; exact rfl; exact rfl; exact hS; (focus (repeat (with_reducible first | apply Les.head | apply Les.tail))); (focus (repeat (first | apply List.Mem.head | apply List.Mem.tail | apply List.mem_append_right))); (exact Part.oneI _); exact rfl; exact rfl; omega; clear hR hS; intro s v w hR hS; simp only [List.set_cons_succ, List.set_cons_zero]))
        go_cut [16] (CarryIs w0 g cur (was % 2))
        case first =>
          go_wp2
          · go_meet
            rename_i hc
            rw [HW.out] at hc
            exact ⟨val_int (by omega), hR⟩
          · go_meet
            rename_i hc
            rw [HW.out] at hc
            exact ⟨val_int (by omega), hR⟩
        case rest =>
        clear hR
        obtain ⟨rfl, hR⟩ := hcut
        go_wp2_with (first
    | (go_at_call 18; refine (size_any _ _).mono ?_; rintro e w' ⟨rfl, rfl⟩)
    | ((with_reducible apply wpList_buildS hR); exact rfl; exact rfl; (first | exact bI0 | exact bI1 _); clear hR; intro g w hR; simp only [List.set_cons_succ, List.set_cons_zero])
    | ((with_reducible apply wpList_appN hR tInts.k); exact rfl; exact rfl; exact rfl; exact hS; (focus (repeat (with_reducible first | apply Les.head | apply Les.tail))); (focus (repeat (first | apply List.Mem.head | apply List.Mem.tail | apply List.mem_append_right))); (exact Part.oneI _); exact rfl; exact rfl; omega; clear hR hS; intro s v w hR hS; simp only [List.set_cons_succ, List.set_cons_zero]))
        go_loopw [13, 16, 17, 18] (fun vb vc vs vk wr => ∃ (k : Nat) (xs : List Nat) (g cap : Nat) (cur : Array Value), TurnIs w0 63 wide n (startN wide x was) vb vc vs vk wr k xs g cap cur) (fun _ _ _ i _ => n - (intOf i).toNat)
        case atStart =>
          exact ⟨0, xs, g, cap, cur, ⟨by omega, rfl, rfl, hrow, hR, hl, hone, hcut, rfl, rfl⟩⟩
        case round =>
          clear hR hone hrow hcut hl
          obtain ⟨k, xs, g, cap, cur, ⟨hk, rfl, rfl, hrow, hR, hl, hone, hnum, rfl, rfl⟩⟩ := hrel
          have hok := stepsN_ok (name := 63) k (s := startN wide x was) (cutN_lt hx) (by show was % 2 ≤ 1; omega)
          have HB := Lib.hid (row_at hrow)
          obtain ⟨h, hhi⟩ : ∃ h, xs[sizeN wide - 1]? = some h := ⟨_, List.getElem?_eq_getElem (by omega)⟩
          obtain ⟨l, hlo⟩ : ∃ l, xs[0]? = some l := ⟨_, List.getElem?_eq_getElem (by omega)⟩
          have HI := Lib.hid hhi
          have LO := Lib.hid hlo
          clear hhi hlo
          by_cases hlt : k < n
          · have hhl : h ≤ 1 := hone h (List.mem_of_getElem? HI.out)
            have hll : l ≤ 1 := hone l (List.mem_of_getElem? LO.out)
            have HL := Lib.hid hl
            have HO := Lib.hid hone
            have HN := Lib.hid hnum
            clear hone hnum hl
            generalize hc : (stepsN 63 wide k (startN wide x was)).2 = c at *
            go_wp2_with (first
    | ((with_reducible apply q_ls hR); exact rfl; (with_reducible apply t_sixG (k := sizeN wide - 1) Try.underlying39 iIntI); (apply EvC.now; exact rfl); (apply EvC.now; exact rfl); omega; omega; (simp only [List.set_cons_succ, List.set_cons_zero]; exact rfl); clear hR; intro w hR)
    | ((with_reducible apply wpList_one hR tIntI); exact rfl; exact rfl; (focus (repeat (first | apply List.Mem.head | apply List.Mem.tail | apply List.mem_append_right))); (exact HB.out _ _ HI.out); (simp only [List.set_cons_succ, List.set_cons_zero]; exact rfl)))
            refine wp_region_rows hR [0, 1, 2, 3, 4, 5, 6, 7, 8, 9] 0 (by kernel_rfl) (by kernel_rfl) (by kernel_rfl) rfl ?_
            clear hR; intro hR
            repeat (refine wpT_step rfl ?_; first
    | ((with_reducible apply q_pl); (with_reducible apply t_sixG (k := 0) Try.underlying39 iIntI); (apply EvC.now; exact rfl); (apply EvC.now; exact rfl); (with_reducible first | omega | exact size_less wide | exact size_less' wide); omega; (simp only [List.set_cons_succ, List.set_cons_zero]; exact rfl))
    | ((with_reducible apply q_pl); (with_reducible apply t_sixG (k := sizeN wide - 1) Try.underlying39 iIntI); (apply EvC.now; exact rfl); (apply EvC.now; exact rfl); (with_reducible first | omega | exact size_less wide | exact size_less' wide); omega; (simp only [List.set_cons_succ, List.set_cons_zero]; exact rfl))
    | ((with_reducible apply q_pl); (with_reducible apply t_one tIntI); (apply EvC.now; exact rfl); (focus (repeat (first | apply List.Mem.head | apply List.Mem.tail | apply List.mem_append_right))); (exact HB.out _ _ LO.out); (simp only [List.set_cons_succ, List.set_cons_zero]; exact rfl))
    | ((with_reducible apply q_pl); (with_reducible apply t_one tIntI); (apply EvC.now; exact rfl); (focus (repeat (first | apply List.Mem.head | apply List.Mem.tail | apply List.mem_append_right))); (exact HB.out _ _ HI.out); (simp only [List.set_cons_succ, List.set_cons_zero]; exact rfl))
    | ((first | (with_reducible apply q_pl) | ((with_reducible apply q_gd); (first | (apply GdBy.gt; exact rfl; exact rfl) | (apply GdBy.gf; exact rfl; exact rfl) | (apply GdBy.t; exact rfl; exact rfl) | (apply GdBy.f; exact rfl; exact rfl)))); (first | ((with_reducible first | apply t_move | apply t_assign | apply t_and | apply t_or | apply t_cmp | apply t_not | apply t_move | apply t_move) <;> (first | (apply EvC.gv; exact rfl; (with_reducible first | exact Imp.refl _ | (apply Imp.left; exact Imp.refl _) | (apply Imp.right; exact Imp.refl _) | (apply Imp.left; apply Imp.left; exact Imp.refl _))) | (apply EvC.now; exact rfl) | exact rfl | (with_reducible exact EvAll.nil) | (focus (repeat (first | apply EvAll.cons | exact EvAll.nil | (apply EvC.gv; exact rfl; (with_reducible first | exact Imp.refl _ | (apply Imp.left; exact Imp.refl _) | (apply Imp.right; exact Imp.refl _) | (apply Imp.left; apply Imp.left; exact Imp.refl _))) | (apply EvC.now; exact rfl))); done) | exact rfl | (focus (repeat (first | apply List.Mem.head | apply List.Mem.tail | apply List.mem_append_right)))))); (simp only [List.set_cons_succ, List.set_cons_zero]; exact rfl))
    | ((with_reducible apply q_gd); (first | (apply GdBy.gt; exact rfl; exact rfl) | (apply GdBy.gf; exact rfl; exact rfl) | (apply GdBy.t; exact rfl; exact rfl) | (apply GdBy.f; exact rfl; exact rfl)); ((with_reducible apply t_num) <;> (first | (apply EvC.gv; exact rfl; (with_reducible first | exact Imp.refl _ | (apply Imp.left; exact Imp.refl _) | (apply Imp.right; exact Imp.refl _) | (apply Imp.left; apply Imp.left; exact Imp.refl _))) | (apply EvC.now; exact rfl) | exact rfl | (with_reducible exact EvAll.nil) | (focus (repeat (first | apply EvAll.cons | exact EvAll.nil | (apply EvC.gv; exact rfl; (with_reducible first | exact Imp.refl _ | (apply Imp.left; exact Imp.refl _) | (apply Imp.right; exact Imp.refl _) | (apply Imp.left; apply Imp.left; exact Imp.refl _))) | (apply EvC.now; exact rfl))); done) | exact rfl | (focus (repeat (first | apply List.Mem.head | apply List.Mem.tail | apply List.mem_append_right))))); (simp only [List.set_cons_succ, List.set_cons_zero]; exact rfl))
    | ((with_reducible apply wpT1_gpure); (first | (apply GdBy.gt; exact rfl; exact rfl) | (apply GdBy.gf; exact rfl; exact rfl) | (apply GdBy.t; exact rfl; exact rfl) | (apply GdBy.f; exact rfl; exact rfl)); intro K hK; go_simp; refine hK _ ?_; clear hK K; simp only [List.set_cons_succ, List.set_cons_zero])
    | ((with_reducible apply wpT1_pure); exact rfl; intro K hK; go_simp; refine hK _ ?_; clear hK K; simp only [List.set_cons_succ, List.set_cons_zero]))
            refine wpG_end hR (by kernel_rfl) ?_
            clear hR; intro w hR
            go_wp2_with (first
    | ((with_reducible apply wpList_makeRow hR Try.underlying39 zInts rfl (by decide)); exact rfl; exact rfl; exact rfl; omega; clear hR; intro gy w hR; simp only [List.set_cons_succ, List.set_cons_zero]))
            go_loopw [22] (fun vi wr => ∃ j : Nat, j ≤ sizeN wide ∧ vi = .int .i64 j ∧ Own w0 wr [(gy, (cellsN (fillN (goneL xs (sizeN wide - 1)) j (sizeN wide))).toArray, 3), (g, cur, 3)]) (fun i _ => sizeN wide - (intOf i).toNat)
            case atStart => exact ⟨0, by omega, rfl, by rw [fill_start, ← cells_zero]; exact hR⟩
            case round =>
              clear hR
              obtain ⟨j, hj, rfl, hR⟩ := hrel
              have hgl : (goneL xs (sizeN wide - 1)).length = sizeN wide := by rw [goneL_len (by rw [HL.out]; omega)]; omega
              have hfl := fill_len hgl hj
              by_cases hjs : j < sizeN wide
              · by_cases hj0 : j = 0
                · subst hj0
                  have HF := Lib.hid (fill_zero hgl hjs (goneL_zero xs _))
                  go_wp2_with fail
                  go_roundw
                  case rel => exact ⟨1, by omega, rfl, by rw [← HF.out]; exact hR⟩
                  case measure => simp [intOf]; omega
                · obtain ⟨i, rfl⟩ : ∃ i, j = i + 1 := ⟨j - 1, by omega⟩
                  obtain ⟨d, hd⟩ : ∃ d, xs[i]? = some d := ⟨_, List.getElem?_eq_getElem (by rw [HL.out]; omega)⟩
                  have HD := Lib.hid hd
                  have HF := Lib.hid (fill_set hgl hjs ((goneL_next (by omega)).trans hd))
                  clear hd
                  go_wp2_with (first
    | ((with_reducible apply q_ls hR); exact rfl; (with_reducible apply t_sixG (k := i) Try.underlying39 iIntI); (apply EvC.now; exact rfl); (apply EvC.now; exact rfl); omega; omega; (simp only [List.set_cons_succ, List.set_cons_zero]; exact rfl); clear hR; intro w hR)
    | ((with_reducible apply q_ls hR); exact rfl; (with_reducible apply t_sixG (k := i + 1) Try.underlying39 iIntI); (apply EvC.now; exact rfl); (apply EvC.now; exact rfl); omega; omega; (simp only [List.set_cons_succ, List.set_cons_zero]; exact rfl); clear hR; intro w hR)
    | ((with_reducible apply wpList_one hR tIntI); exact rfl; exact rfl; (focus (repeat (first | apply List.Mem.head | apply List.Mem.tail | apply List.mem_append_right))); (exact HB.out _ _ HD.out); (simp only [List.set_cons_succ, List.set_cons_zero]; exact rfl))
    | ((with_reducible apply wpList_put1 hR tIntI); exact rfl; exact rfl; exact rfl; (focus (repeat (first | apply List.Mem.head | apply List.Mem.tail | apply List.mem_append_right))); (exact put_cell (by omega)); (rw [cells_size]; omega); exact rfl; (focus (repeat (first | apply Upd.head | apply Upd.tail))); clear hR; intro w hR))
                  go_roundw
                  case rel => exact ⟨i + 1 + 1, by omega, val_int (by omega), by rw [← HF.out]; exact hR⟩
                  case measure => simp [intOf]; omega
              · have e : j = sizeN wide := by omega
                subst e
                rw [fill_end hgl] at hR
                clear hfl
                go_wp2_with (first
    | ((with_reducible apply q_ls hR); exact rfl; (with_reducible apply t_sixG (k := 0) Try.underlying39 iIntI); (apply EvC.now; exact rfl); (apply EvC.now; exact rfl); omega; omega; (simp only [List.set_cons_succ, List.set_cons_zero]; exact rfl); clear hR; intro w hR)
    | ((with_reducible apply wpList_put1 hR tIntI); exact rfl; exact rfl; exact rfl; (focus (repeat (first | apply List.Mem.head | apply List.Mem.tail | apply List.mem_append_right))); (exact put_cell (by omega)); (rw [cells_size]; omega); exact rfl; (focus (repeat (first | apply Upd.head | apply Upd.tail))); clear hR; intro w hR))
                go_roundw
                case rel =>
                  obtain ⟨e1, e2⟩ := ofL (d := h) HL.out HO.out HI.out
                  have HS : stepsN 63 wide (k + 1) (startN wide x was) = stepN 63 wide (stepsN 63 wide k (startN wide x was)) := rfl
                  have hlen : (h :: xs.take (sizeN wide - 1)).length = sizeN wide := by rw [List.length_cons, List.length_take_of_le (by rw [HL.out]; omega)]; omega
                  refine ⟨k + 1, h :: xs.take (sizeN wide - 1), gy, sizeN wide, _, ⟨by omega, val_int (by omega), rfl, row_all _ _ hlen (by omega), hR.drop (List.Sublist.cons_cons _ (List.nil_sublist _)), hlen, ?_, ?_, val_int ?_, val_int ?_⟩⟩
                  · intro y hy
                    rcases List.mem_cons.1 hy with rfl | hy
                    · first | omega | exact hhl
                    · exact take_ones HO.out _ y hy
                  · rw [e1, HS, HN.out]; exact (congrArg (fun z => (stepsN 63 wide k (startN wide x was)).1 * 2 % (2 * topN wide) + z) (by rw [← HN.out]; exact e2.symm))
                  · rw [HS]; show (h : Int) = (((stepsN 63 wide k (startN wide x was)).1 / topN wide : Nat) : Int); rw [← HN.out, e2]
                  · show (h : Int) = (((stepsN 63 wide k (startN wide x was)).1 / topN wide : Nat) : Int); rw [← HN.out, e2]
                case measure => simp [intOf]; omega
          · have e : k = n := by omega
            subst e
            have hV := hnum
            have hlt2 : ofN xs < 2 * topN wide := by rw [hnum]; exact hok.1
            have hhv : ofN xs / topN wide = h := (ofL (d := 0) hl hone HI.out).2
            have hsg := signAt_le (name := 63) (wide := wide) k (s := startN wide x was) (cutN_lt hx) (by show was % 2 ≤ 1; omega)
            have HOF := Lib.hid (fun w (h : SrcI w ⟨g, 0, none⟩ xs) => of_any xs ⟨g, 0, none⟩ cap w h hone (by omega))
            have HSRC := Lib.hid (src_row hR (.head _) hrow)
            have HF : Hid (shF 63 wide x k was = shO (shC (bits .andNot .u16 (shBase 63 wide (ofN xs) was) 2049) (stepsN 63 wide k (startN wide x was)).2) (signAt 63 wide k (startN wide x was)) h) := Lib.hid (by
              unfold shF; rw [if_neg hn0, ← hhv, hnum])
            have HV : Hid (shV 63 wide x k was = ofN xs) := Lib.hid hnum.symm
            have hc1 := hok.2
            have hxv : ofN xs ≤ 65535 := by omega
            rw [hl] at HOF
            clear hV hnum hhv hone hrow hok hn0
            generalize ofN xs = v at *
            generalize signAt 63 wide k (startN wide x was) = sg at *
            generalize (stepsN 63 wide k (startN wide x was)).2 = c at *
            rcases (by omega : c = 0 ∨ c = 1) with rfl | rfl <;> rcases (by omega : sg = h ∨ sg ≠ h) with hsh | hsh
            all_goals
              go_wp2_with (first
    | (go_at_call 20; refine (HOF.out _ HSRC.out).mono ?_; rintro e w' ⟨rfl, hb⟩; replace hR := hR.grow hb; clear hb)
    | (go_at_call 21; refine (signsR_any _ _ _ (by omega)).mono ?_; rintro e w' ⟨rfl, rfl⟩)
    | ((with_reducible apply q_ls hR); exact rfl; (with_reducible apply t_sixG (k := sizeN wide - 1) Try.underlying39 iIntI); (apply EvC.now; exact rfl); (apply EvC.now; exact rfl); omega; omega; (simp only [List.set_cons_succ, List.set_cons_zero]; exact rfl); clear hR; intro w hR)
    | ((with_reducible apply wpList_one hR tIntI); exact rfl; exact rfl; (focus (repeat (first | apply List.Mem.head | apply List.Mem.tail | apply List.mem_append_right))); (exact HB.out _ _ HI.out); (simp only [List.set_cons_succ, List.set_cons_zero]; exact rfl)))
              go_ret2
              refine ⟨?_, hR.below⟩
              rw [HV.out, HF.out]
              first
                | rw [show shO _ sg h = _ from if_pos hsh]; rfl
                | rw [show shO _ sg h = _ from if_neg hsh]; rfl
set_option maxHeartbeats 8000000 in
set_option maxRecDepth 100000 in
theorem shiftR_64 (x n was : Nat) (wide : Bool) (w0 : World) (hx : x ≤ 65535) (hn : n ≤ 255) (hw : was ≤ 65535) :
    Calls Try.prog 7 #[.int .i64 64, .int .u16 x, .int .i64 n, .int .u16 was, .bool wide] w0 fun e w' => e = .returned (.tuple #[.int .u16 (shV 64 wide x n was : Nat), .int .u16 (shF 64 wide x n was)]) ∧ Below w0.heap.size w0 w' := by
  have hR := Own.start w0
  have ht := topN_le wide
  have hsz : sizeN wide ≤ 16 ∧ 8 ≤ sizeN wide := by cases wide <;> decide
  go_enter Try.func7, Try.ntmps7
  go_wp2_with (first
    | (go_at_call 18; refine (size_any _ _).mono ?_; rintro e w' ⟨rfl, rfl⟩)
    | ((with_reducible apply wpList_buildS hR); exact rfl; exact rfl; (first | exact bI0 | exact bI1 _); clear hR; intro g w hR; simp only [List.set_cons_succ, List.set_cons_zero])
    | ((with_reducible apply wpList_appN hR tInts.k); exact rfl; exact rfl; exact rfl; exact hS; (focus (repeat (with_reducible first | apply Les.head | apply Les.tail))); (focus (repeat (first | apply List.Mem.head | apply List.Mem.tail | apply List.mem_append_right))); (exact Part.oneI _); exact rfl; exact rfl; omega; clear hR hS; intro s v w hR hS; simp only [List.set_cons_succ, List.set_cons_zero]))
  go_loopw [13, 14] (fun vb vi wr => ∃ (k : Nat) (xs : List Nat), UpIs w0 wide x vb vi wr k xs) (fun _ i _ => sizeN wide - (intOf i).toNat)
  case atStart => exact ⟨0, [], up_start w0 wide x hR⟩
  case round =>
    clear hR
    obtain ⟨k, xs, ⟨hk, rfl, hl, hone, hsum, ⟨s, hR, hS⟩⟩⟩ := hrel
    by_cases hlt : k < sizeN wide
    · have HN := Lib.hid (bits_next (V := x) hl hsum)
      have HL := Lib.hid hl
      have HO := Lib.hid hone
      have h1 := bitN_le x k
      rw [hl] at hS
      clear hsum hl hone
      generalize hb : bitN x k = y at *
      go_wp2_with (first
    | (go_at_call 18; refine (size_any _ _).mono ?_; rintro e w' ⟨rfl, rfl⟩)
    | ((with_reducible apply wpList_buildS hR); exact rfl; exact rfl; (first | exact bI0 | exact bI1 _); clear hR; intro g w hR; simp only [List.set_cons_succ, List.set_cons_zero])
    | ((with_reducible apply wpList_appN hR tInts.k); exact rfl; exact rfl; exact rfl; exact hS; (focus (repeat (with_reducible first | apply Les.head | apply Les.tail))); (focus (repeat (first | apply List.Mem.head | apply List.Mem.tail | apply List.mem_append_right))); (exact Part.oneI _); exact rfl; exact rfl; omega; clear hR hS; intro s v w hR hS; simp only [List.set_cons_succ, List.set_cons_zero])
    | (go_at_call 19; refine (bit_any _ k _ (by omega) (by omega)).mono ?_; rintro e w' ⟨rfl, rfl⟩; rw [hb]))
      go_roundw
      case rel =>
        exact ⟨k + 1, xs ++ [y], ⟨by omega, val_int (by omega), by rw [List.length_append, HL.out]; rfl, ones_snoc HO.out (by omega), HN.out, BitsIs.of hR (by (focus (repeat (with_reducible first | apply Les.head | apply Les.tail)))) hS (by rw [List.length_append, HL.out]; rfl) (by rw [cellsN_snoc])⟩⟩
      case measure => simp [intOf]; omega
    · have e : k = sizeN wide := by omega
      subst e
      obtain ⟨g, cap, cur, rfl, hrow, hO⟩ := BitsIs.row ⟨s, hR, hS⟩ (by intro e; rw [e] at hl; simp at hl; omega)
      have hcut : ofN xs = cutN wide x := by
        rw [hsum]; cases wide
        · rfl
        · show x % 65536 = x; omega
      clear hR hS hsum
      have hR := hO
      clear hO
      rw [hl] at hrow ⊢
      have HW := Lib.hid (and_one hw)
      by_cases hn0 : n = 0
      · subst hn0
        have hsrc := Lib.hid (src_row hR (.head _) hrow)
        have HOF := Lib.hid (fun w (h : SrcI w ⟨g, 0, none⟩ xs) => of_any xs ⟨g, 0, none⟩ cap w h hone (by omega))
        rw [hl, hcut] at HOF
        go_wp2_with (first
    | (go_at_call 20; refine (HOF.out _ hsrc.out).mono ?_; rintro e w' ⟨rfl, hb⟩; replace hR := hR.grow hb; clear hb))
        go_ret2
        exact ⟨rfl, hR.below⟩
      · go_upto_if 47 with (first
    | (go_at_call 18; refine (size_any _ _).mono ?_; rintro e w' ⟨rfl, rfl⟩)
    | ((with_reducible apply wpList_buildS hR); exact rfl; exact rfl; (first | exact bI0 | exact bI1 _); clear hR; intro g w hR; simp only [List.set_cons_succ, List.set_cons_zero])
    | ((with_reducible apply wpList_appN hR tInts.k); exact rfl; exact rfl; exact rfl; exact hS; (focus (repeat (with_reducible first | apply Les.head | apply Les.tail))); (focus (repeat (first | apply List.Mem.head | apply List.Mem.tail | apply List.mem_append_right))); (exact Part.oneI _); exact rfl; exact rfl; omega; clear hR hS; intro s v w hR hS; simp only [List.set_cons_succ, List.set_cons_zero]))
        go_cut [16] (CarryIs w0 g cur (was % 2))
        case first =>
          go_wp2
          · go_meet
            rename_i hc
            rw [HW.out] at hc
            exact ⟨val_int (by omega), hR⟩
          · go_meet
            rename_i hc
            rw [HW.out] at hc
            exact ⟨val_int (by omega), hR⟩
        case rest =>
        clear hR
        obtain ⟨rfl, hR⟩ := hcut
        go_wp2_with (first
    | (go_at_call 18; refine (size_any _ _).mono ?_; rintro e w' ⟨rfl, rfl⟩)
    | ((with_reducible apply wpList_buildS hR); exact rfl; exact rfl; (first | exact bI0 | exact bI1 _); clear hR; intro g w hR; simp only [List.set_cons_succ, List.set_cons_zero])
    | ((with_reducible apply wpList_appN hR tInts.k); exact rfl; exact rfl; exact rfl; exact hS; (focus (repeat (with_reducible first | apply Les.head | apply Les.tail))); (focus (repeat (first | apply List.Mem.head | apply List.Mem.tail | apply List.mem_append_right))); (exact Part.oneI _); exact rfl; exact rfl; omega; clear hR hS; intro s v w hR hS; simp only [List.set_cons_succ, List.set_cons_zero]))
        go_loopw [13, 16, 17, 18] (fun vb vc vs vk wr => ∃ (k : Nat) (xs : List Nat) (g cap : Nat) (cur : Array Value), TurnIs w0 64 wide n (startN wide x was) vb vc vs vk wr k xs g cap cur) (fun _ _ _ i _ => n - (intOf i).toNat)
        case atStart =>
          exact ⟨0, xs, g, cap, cur, ⟨by omega, rfl, rfl, hrow, hR, hl, hone, hcut, rfl, rfl⟩⟩
        case round =>
          clear hR hone hrow hcut hl
          obtain ⟨k, xs, g, cap, cur, ⟨hk, rfl, rfl, hrow, hR, hl, hone, hnum, rfl, rfl⟩⟩ := hrel
          have hok := stepsN_ok (name := 64) k (s := startN wide x was) (cutN_lt hx) (by show was % 2 ≤ 1; omega)
          have HB := Lib.hid (row_at hrow)
          obtain ⟨h, hhi⟩ : ∃ h, xs[sizeN wide - 1]? = some h := ⟨_, List.getElem?_eq_getElem (by omega)⟩
          obtain ⟨l, hlo⟩ : ∃ l, xs[0]? = some l := ⟨_, List.getElem?_eq_getElem (by omega)⟩
          have HI := Lib.hid hhi
          have LO := Lib.hid hlo
          clear hhi hlo
          by_cases hlt : k < n
          · have hhl : h ≤ 1 := hone h (List.mem_of_getElem? HI.out)
            have hll : l ≤ 1 := hone l (List.mem_of_getElem? LO.out)
            have HL := Lib.hid hl
            have HO := Lib.hid hone
            have HN := Lib.hid hnum
            clear hone hnum hl
            generalize hc : (stepsN 64 wide k (startN wide x was)).2 = c at *
            go_wp2_with (first
    | ((with_reducible apply q_ls hR); exact rfl; (with_reducible apply t_sixG (k := sizeN wide - 1) Try.underlying39 iIntI); (apply EvC.now; exact rfl); (apply EvC.now; exact rfl); omega; omega; (simp only [List.set_cons_succ, List.set_cons_zero]; exact rfl); clear hR; intro w hR)
    | ((with_reducible apply wpList_one hR tIntI); exact rfl; exact rfl; (focus (repeat (first | apply List.Mem.head | apply List.Mem.tail | apply List.mem_append_right))); (exact HB.out _ _ HI.out); (simp only [List.set_cons_succ, List.set_cons_zero]; exact rfl)))
            refine wp_region_rows hR [0, 1, 2, 3, 4, 5, 6, 7, 8, 9] 0 (by kernel_rfl) (by kernel_rfl) (by kernel_rfl) rfl ?_
            clear hR; intro hR
            repeat (refine wpT_step rfl ?_; first
    | ((with_reducible apply q_pl); (with_reducible apply t_sixG (k := 0) Try.underlying39 iIntI); (apply EvC.now; exact rfl); (apply EvC.now; exact rfl); (with_reducible first | omega | exact size_less wide | exact size_less' wide); omega; (simp only [List.set_cons_succ, List.set_cons_zero]; exact rfl))
    | ((with_reducible apply q_pl); (with_reducible apply t_sixG (k := sizeN wide - 1) Try.underlying39 iIntI); (apply EvC.now; exact rfl); (apply EvC.now; exact rfl); (with_reducible first | omega | exact size_less wide | exact size_less' wide); omega; (simp only [List.set_cons_succ, List.set_cons_zero]; exact rfl))
    | ((with_reducible apply q_pl); (with_reducible apply t_one tIntI); (apply EvC.now; exact rfl); (focus (repeat (first | apply List.Mem.head | apply List.Mem.tail | apply List.mem_append_right))); (exact HB.out _ _ LO.out); (simp only [List.set_cons_succ, List.set_cons_zero]; exact rfl))
    | ((with_reducible apply q_pl); (with_reducible apply t_one tIntI); (apply EvC.now; exact rfl); (focus (repeat (first | apply List.Mem.head | apply List.Mem.tail | apply List.mem_append_right))); (exact HB.out _ _ HI.out); (simp only [List.set_cons_succ, List.set_cons_zero]; exact rfl))
    | ((first | (with_reducible apply q_pl) | ((with_reducible apply q_gd); (first | (apply GdBy.gt; exact rfl; exact rfl) | (apply GdBy.gf; exact rfl; exact rfl) | (apply GdBy.t; exact rfl; exact rfl) | (apply GdBy.f; exact rfl; exact rfl)))); (first | ((with_reducible first | apply t_move | apply t_assign | apply t_and | apply t_or | apply t_cmp | apply t_not | apply t_move | apply t_move) <;> (first | (apply EvC.gv; exact rfl; (with_reducible first | exact Imp.refl _ | (apply Imp.left; exact Imp.refl _) | (apply Imp.right; exact Imp.refl _) | (apply Imp.left; apply Imp.left; exact Imp.refl _))) | (apply EvC.now; exact rfl) | exact rfl | (with_reducible exact EvAll.nil) | (focus (repeat (first | apply EvAll.cons | exact EvAll.nil | (apply EvC.gv; exact rfl; (with_reducible first | exact Imp.refl _ | (apply Imp.left; exact Imp.refl _) | (apply Imp.right; exact Imp.refl _) | (apply Imp.left; apply Imp.left; exact Imp.refl _))) | (apply EvC.now; exact rfl))); done) | exact rfl | (focus (repeat (first | apply List.Mem.head | apply List.Mem.tail | apply List.mem_append_right)))))); (simp only [List.set_cons_succ, List.set_cons_zero]; exact rfl))
    | ((with_reducible apply q_gd); (first | (apply GdBy.gt; exact rfl; exact rfl) | (apply GdBy.gf; exact rfl; exact rfl) | (apply GdBy.t; exact rfl; exact rfl) | (apply GdBy.f; exact rfl; exact rfl)); ((with_reducible apply t_num) <;> (first | (apply EvC.gv; exact rfl; (with_reducible first | exact Imp.refl _ | (apply Imp.left; exact Imp.refl _) | (apply Imp.right; exact Imp.refl _) | (apply Imp.left; apply Imp.left; exact Imp.refl _))) | (apply EvC.now; exact rfl) | exact rfl | (with_reducible exact EvAll.nil) | (focus (repeat (first | apply EvAll.cons | exact EvAll.nil | (apply EvC.gv; exact rfl; (with_reducible first | exact Imp.refl _ | (apply Imp.left; exact Imp.refl _) | (apply Imp.right; exact Imp.refl _) | (apply Imp.left; apply Imp.left; exact Imp.refl _))) | (apply EvC.now; exact rfl))); done) | exact rfl | (focus (repeat (first | apply List.Mem.head | apply List.Mem.tail | apply List.mem_append_right))))); (simp only [List.set_cons_succ, List.set_cons_zero]; exact rfl))
    | ((with_reducible apply wpT1_gpure); (first | (apply GdBy.gt; exact rfl; exact rfl) | (apply GdBy.gf; exact rfl; exact rfl) | (apply GdBy.t; exact rfl; exact rfl) | (apply GdBy.f; exact rfl; exact rfl)); intro K hK; go_simp; refine hK _ ?_; clear hK K; simp only [List.set_cons_succ, List.set_cons_zero])
    | ((with_reducible apply wpT1_pure); exact rfl; intro K hK; go_simp; refine hK _ ?_; clear hK K; simp only [List.set_cons_succ, List.set_cons_zero]))
            refine wpG_end hR (by kernel_rfl) ?_
            clear hR; intro w hR
            go_wp2_with (first
    | ((with_reducible apply wpList_makeRow hR Try.underlying39 zInts rfl (by decide)); exact rfl; exact rfl; exact rfl; omega; clear hR; intro gy w hR; simp only [List.set_cons_succ, List.set_cons_zero]))
            go_loopw [22] (fun vi wr => ∃ j : Nat, j ≤ sizeN wide ∧ vi = .int .i64 j ∧ Own w0 wr [(gy, (cellsN (fillN (goneR xs) j (sizeN wide))).toArray, 3), (g, cur, 3)]) (fun i _ => sizeN wide - (intOf i).toNat)
            case atStart => exact ⟨0, by omega, rfl, by rw [fill_start, ← cells_zero]; exact hR⟩
            case round =>
              clear hR
              obtain ⟨j, hj, rfl, hR⟩ := hrel
              have hl1 : xs.length = sizeN wide - 1 + 1 := by rw [HL.out]; omega
              have hgl : (goneR xs).length = sizeN wide := by rw [goneR_len hl1]; omega
              have hfl := fill_len hgl hj
              by_cases hjs : j < sizeN wide
              · by_cases hj0 : j = sizeN wide - 1
                · have HF := Lib.hid (fill_zero hgl hjs (by rw [hj0]; exact goneR_last hl1))
                  go_wp2_with fail
                  go_roundw
                  case rel => exact ⟨j + 1, by omega, val_int (by omega), by rw [← HF.out]; exact hR⟩
                  case measure => simp [intOf]; omega
                · obtain ⟨d, hd⟩ : ∃ d, xs[j + 1]? = some d := ⟨_, List.getElem?_eq_getElem (by rw [HL.out]; omega)⟩
                  have HD := Lib.hid hd
                  have HF := Lib.hid (fill_set hgl hjs ((goneR_next hl1 (by omega)).trans hd))
                  clear hd
                  go_wp2_with (first
    | ((with_reducible apply q_ls hR); exact rfl; (with_reducible apply t_sixG (k := j + 1) Try.underlying39 iIntI); (apply EvC.now; exact rfl); (apply EvC.now; exact rfl); omega; omega; (simp only [List.set_cons_succ, List.set_cons_zero]; exact rfl); clear hR; intro w hR)
    | ((with_reducible apply q_ls hR); exact rfl; (with_reducible apply t_sixG (k := j) Try.underlying39 iIntI); (apply EvC.now; exact rfl); (apply EvC.now; exact rfl); omega; omega; (simp only [List.set_cons_succ, List.set_cons_zero]; exact rfl); clear hR; intro w hR)
    | ((with_reducible apply wpList_one hR tIntI); exact rfl; exact rfl; (focus (repeat (first | apply List.Mem.head | apply List.Mem.tail | apply List.mem_append_right))); (exact HB.out _ _ HD.out); (simp only [List.set_cons_succ, List.set_cons_zero]; exact rfl))
    | ((with_reducible apply wpList_put1 hR tIntI); exact rfl; exact rfl; exact rfl; (focus (repeat (first | apply List.Mem.head | apply List.Mem.tail | apply List.mem_append_right))); (exact put_cell (by omega)); (rw [cells_size]; omega); exact rfl; (focus (repeat (first | apply Upd.head | apply Upd.tail))); clear hR; intro w hR))
                  go_roundw
                  case rel => exact ⟨j + 1, by omega, val_int (by omega), by rw [← HF.out]; exact hR⟩
                  case measure => simp [intOf]; omega
              · have e : j = sizeN wide := by omega
                subst e
                rw [fill_end hgl] at hR
                clear hfl
                go_wp2_with (first
    | ((with_reducible apply q_ls hR); exact rfl; (with_reducible apply t_sixG (k := sizeN wide - 1) Try.underlying39 iIntI); (apply EvC.now; exact rfl); (apply EvC.now; exact rfl); omega; omega; (simp only [List.set_cons_succ, List.set_cons_zero]; exact rfl); clear hR; intro w hR)
    | ((with_reducible apply wpList_put1 hR tIntI); exact rfl; exact rfl; exact rfl; (focus (repeat (first | apply List.Mem.head | apply List.Mem.tail | apply List.mem_append_right))); (exact put_cell (by omega)); (rw [cells_size]; omega); exact rfl; (focus (repeat (first | apply Upd.head | apply Upd.tail))); clear hR; intro w hR))
                go_roundw
                case rel =>
                  obtain ⟨e1, e2⟩ := ofR (d := l) HL.out HO.out LO.out
                  have hhv : ofN xs / topN wide = h := (ofL (d := 0) HL.out HO.out HI.out).2
                  have HS : stepsN 64 wide (k + 1) (startN wide x was) = stepN 64 wide (stepsN 64 wide k (startN wide x was)) := rfl
                  have hlen : (xs.drop 1 ++ [l]).length = sizeN wide := by rw [List.length_append, List.length_drop, HL.out]; simp; omega
                  try rw [setR hl1] at hR
                  refine ⟨k + 1, xs.drop 1 ++ [l], gy, sizeN wide, _, ⟨by omega, val_int (by omega), rfl, row_all _ _ hlen (by omega), hR.drop (List.Sublist.cons_cons _ (List.nil_sublist _)), hlen, ones_snoc (tail_ones HO.out) (by omega), ?_, val_int ?_, val_int ?_⟩⟩
                  · rw [e1, HS, HN.out]; exact (congrArg (fun z => (stepsN 64 wide k (startN wide x was)).1 / 2 + z * topN wide) (by rw [← HN.out]; exact e2.symm))
                  · rw [HS]; show (l : Int) = (((stepsN 64 wide k (startN wide x was)).1 % 2 : Nat) : Int); rw [← HN.out, e2]
                  · show (h : Int) = (((stepsN 64 wide k (startN wide x was)).1 / topN wide : Nat) : Int); rw [← HN.out, hhv]
                case measure => simp [intOf]; omega
          · have e : k = n := by omega
            subst e
            have hV := hnum
            have hlt2 : ofN xs < 2 * topN wide := by rw [hnum]; exact hok.1
            have hhv : ofN xs / topN wide = h := (ofL (d := 0) hl hone HI.out).2
            have hsg := signAt_le (name := 64) (wide := wide) k (s := startN wide x was) (cutN_lt hx) (by show was % 2 ≤ 1; omega)
            have HOF := Lib.hid (fun w (h : SrcI w ⟨g, 0, none⟩ xs) => of_any xs ⟨g, 0, none⟩ cap w h hone (by omega))
            have HSRC := Lib.hid (src_row hR (.head _) hrow)
            have HF : Hid (shF 64 wide x k was = shO (shC (bits .andNot .u16 (shBase 64 wide (ofN xs) was) 2049) (stepsN 64 wide k (startN wide x was)).2) (signAt 64 wide k (startN wide x was)) h) := Lib.hid (by
              unfold shF; rw [if_neg hn0, ← hhv, hnum])
            have HV : Hid (shV 64 wide x k was = ofN xs) := Lib.hid hnum.symm
            have hc1 := hok.2
            have hxv : ofN xs ≤ 65535 := by omega
            rw [hl] at HOF
            clear hV hnum hhv hone hrow hok hn0
            generalize ofN xs = v at *
            generalize signAt 64 wide k (startN wide x was) = sg at *
            generalize (stepsN 64 wide k (startN wide x was)).2 = c at *
            rcases (by omega : c = 0 ∨ c = 1) with rfl | rfl <;> rcases (by omega : sg = h ∨ sg ≠ h) with hsh | hsh
            all_goals
              go_wp2_with (first
    | (go_at_call 20; refine (HOF.out _ HSRC.out).mono ?_; rintro e w' ⟨rfl, hb⟩; replace hR := hR.grow hb; clear hb)
    | (go_at_call 21; refine (signsR_any _ _ _ (by omega)).mono ?_; rintro e w' ⟨rfl, rfl⟩)
    | ((with_reducible apply q_ls hR); exact rfl; (with_reducible apply t_sixG (k := sizeN wide - 1) Try.underlying39 iIntI); (apply EvC.now; exact rfl); (apply EvC.now; exact rfl); omega; omega; (simp only [List.set_cons_succ, List.set_cons_zero]; exact rfl); clear hR; intro w hR)
    | ((with_reducible apply wpList_one hR tIntI); exact rfl; exact rfl; (focus (repeat (first | apply List.Mem.head | apply List.Mem.tail | apply List.mem_append_right))); (exact HB.out _ _ HI.out); (simp only [List.set_cons_succ, List.set_cons_zero]; exact rfl)))
              go_ret2
              refine ⟨?_, hR.below⟩
              rw [HV.out, HF.out]
              first
                | rw [show shO _ sg h = _ from if_pos hsh]; rfl
                | rw [show shO _ sg h = _ from if_neg hsh]; rfl
end Go.Proofs.Ytcplcjfkehogkaa
