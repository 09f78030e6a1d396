




/- The contract of the document's own differences, bit by bit: Sub of hansomref08. No statement of the seat is proved here. -/
import Derived.Test.YtpkobahelnopmaaAluS
namespace Go.Proofs.Ytpkobahelnopmaa
open Go.ChangeShapes Go.WideShapes Go.ChangeAt Go.RowKit
set_option linter.unusedVariables false
set_option linter.unusedSimpArgs false

/-- How far a difference has come. -/
structure DiffIs (w0 : World) (wide : Bool) (a b c : Nat) (vc vb vl vf vi : Value) (wx : World) (k : Nat) (xs : List Nat) : Prop where
  le : k ≤ sizeN wide
  at_ : vi = .int .i64 k
  cy : vc = .int .i64 (borN a b c k : Nat)
  last : vl = .int .i64 (borN a b c (k - 1) : Nat)
  f : vf = .int .u16 (fl 16 (decide (4 ≤ k) && borN a b c 4 == 1) : Nat)
  len : xs.length = k
  one : ∀ x ∈ xs, x ≤ 1
  sum : ofN xs + b % 2 ^ k + c = a % 2 ^ k + 2 ^ k * borN a b c k
  bits : BitsIs w0 xs vb wx
set_option maxHeartbeats 4000000 in
theorem subR_any (a b c : Nat) (wide : Bool) (w0 : World) (ha : a < 2 * topN wide) (hb : b < 2 * topN wide) (hc : c ≤ 1) :
    Calls Try.prog 17 #[.int .u16 a, .int .u16 b, .int .i64 c, .bool wide] w0 fun e w' => e = .returned (.tuple #[.int .u16 (subV wide a b c : Nat), .int .u16 (subF wide a b c : Nat)]) ∧ Below w0.heap.size w0 w' := by
  have hR := Own.start w0
  have ht := topN_le wide
  have hsz : sizeN wide ≤ 16 ∧ 8 ≤ sizeN wide := by cases wide <;> decide
  go_enter Try.func17, Try.ntmps17
  go_wp2_with (first
    | (go_at_call 9; refine (size_any _ _).mono ?_; rintro e w' ⟨rfl, rfl⟩)
    | ((with_reducible apply wpList_buildS hR); exact rfl; exact rfl; (first | exact bI0 | exact bI1 _); clear hR; intro g w hR; simp only [List.set_cons_succ, List.set_cons_zero])
    | ((with_reducible apply wpList_appN hR tInts.k); exact rfl; exact rfl; exact rfl; exact hS; (focus (repeat (with_reducible first | apply Les.head | apply Les.tail))); (focus (repeat (first | apply List.Mem.head | apply List.Mem.tail | apply List.mem_append_right))); (exact Part.oneI _); exact rfl; exact rfl; omega; clear hR hS; intro s v w hR hS; simp only [List.set_cons_succ, List.set_cons_zero]))
  go_loopw [2, 10, 11, 12, 13] (fun vc vb vl vf vi wr => ∃ (k : Nat) (xs : List Nat), DiffIs w0 wide a b c vc vb vl vf vi wr k xs) (fun _ _ _ _ i _ => sizeN wide - (intOf i).toNat)
  case atStart =>
    exact ⟨0, [], ⟨by omega, rfl, by rw [borN_zero _ _ _ hc], by rw [borN_zero _ _ _ hc], by simp [fl], rfl, (fun _ h => nomatch h), by rw [borN_zero _ _ _ hc]; simp [ofN, Nat.mod_one], BitsIs.of hR (Les.head (s := [_])) (Sl.ofIs (SlIs.all rfl (by decide))) rfl rfl⟩⟩
  case round =>
    clear hR
    obtain ⟨k, xs, ⟨hk, rfl, rfl, rfl, rfl, hl, hone, hsum, ⟨s, hR, hS⟩⟩⟩ := hrel
    by_cases hlt : k < sizeN wide
    · have HS := Lib.hid hsum
      have HL := Lib.hid hl
      have HO := Lib.hid hone
      have h1 := bitN_le a k
      have h2 := bitN_le b k
      have h3 := borN_le a b c k
      rw [hl] at hS
      have hnx := borN_next a b c k hc
      clear hsum hl hone
      rcases (by omega : bitN b k + borN a b c k ≤ bitN a k ∨ bitN a k < bitN b k + borN a b c k) with hd | hd
      · rw [if_neg (by omega)] at hnx
        have HN := Lib.hid (diff_next (d := bitN a k - (bitN b k + borN a b c k)) HL.out HS.out (by rw [hnx]; omega))
        have HZ := Lib.hid hnx
        clear hnx HS
        generalize hx : bitN a k = x at *
        generalize hy : bitN b k = y at *
        generalize hz : borN a b c k = z at *
        go_wp2_with (first
    | (go_at_call 9; refine (size_any _ _).mono ?_; rintro e w' ⟨rfl, rfl⟩)
    | ((with_reducible apply wpList_buildS hR); exact rfl; exact rfl; (first | exact bI0 | exact bI1 _); clear hR; intro g w hR; simp only [List.set_cons_succ, List.set_cons_zero])
    | ((with_reducible apply wpList_appN hR tInts.k); exact rfl; exact rfl; exact rfl; exact hS; (focus (repeat (with_reducible first | apply Les.head | apply Les.tail))); (focus (repeat (first | apply List.Mem.head | apply List.Mem.tail | apply List.mem_append_right))); (exact Part.oneI _); exact rfl; exact rfl; omega; clear hR hS; intro s v w hR hS; simp only [List.set_cons_succ, List.set_cons_zero])
    | (go_at_call 22; refine (bit_any _ k _ (by omega) (by omega)).mono ?_; rintro e w' ⟨rfl, rfl⟩; first | rw [hx] | rw [hy]))
        refine wp_loop_rounds 3 ?_
        rw [rounds_succ]
        go_wp2_with (first
    | (go_at_call 9; refine (size_any _ _).mono ?_; rintro e w' ⟨rfl, rfl⟩)
    | ((with_reducible apply wpList_buildS hR); exact rfl; exact rfl; (first | exact bI0 | exact bI1 _); clear hR; intro g w hR; simp only [List.set_cons_succ, List.set_cons_zero])
    | ((with_reducible apply wpList_appN hR tInts.k); exact rfl; exact rfl; exact rfl; exact hS; (focus (repeat (with_reducible first | apply Les.head | apply Les.tail))); (focus (repeat (first | apply List.Mem.head | apply List.Mem.tail | apply List.mem_append_right))); (exact Part.oneI _); exact rfl; exact rfl; omega; clear hR hS; intro s v w hR hS; simp only [List.set_cons_succ, List.set_cons_zero]))
        · go_roundw
          case rel hk3 =>
            exact ⟨k + 1, xs ++ [x - (y + z)], ⟨by omega, val_int (by omega), val_int (by rw [HZ.out]; rfl), val_int (by rw [← hz]; rfl), val_int (by rw [fa_no (by omega) (car4n (by omega) HZ.out (by decide))]), by rw [List.length_append, HL.out]; rfl, ones_snoc HO.out (by omega), HN.out, BitsIs.of hR (by (focus (repeat (with_reducible first | apply Les.head | apply Les.tail)))) hS (by rw [List.length_append, HL.out]; rfl) (by rw [cellsN_snoc]; exact congrArg (fun z => cellsN xs ++ [Value.int .i64 z]) (by omega))⟩⟩
          case measure => simp [intOf]; omega
        · go_roundw
          case rel hk3 =>
            exact ⟨k + 1, xs ++ [x - (y + z)], ⟨by omega, val_int (by omega), val_int (by rw [HZ.out]; rfl), val_int (by rw [← hz]; rfl), val_int (by rw [fa_other (by omega)]), by rw [List.length_append, HL.out]; rfl, ones_snoc HO.out (by omega), HN.out, BitsIs.of hR (by (focus (repeat (with_reducible first | apply Les.head | apply Les.tail)))) hS (by rw [List.length_append, HL.out]; rfl) (by rw [cellsN_snoc]; exact congrArg (fun z => cellsN xs ++ [Value.int .i64 z]) (by omega))⟩⟩
          case measure => simp [intOf]; omega
      · rw [if_pos hd] at hnx
        have HN := Lib.hid (diff_next (d := bitN a k + 2 - (bitN b k + borN a b c k)) HL.out HS.out (by rw [hnx]; omega))
        have HZ := Lib.hid hnx
        clear hnx HS
        generalize hx : bitN a k = x at *
        generalize hy : bitN b k = y at *
        generalize hz : borN a b c k = z at *
        go_wp2_with (first
    | (go_at_call 9; refine (size_any _ _).mono ?_; rintro e w' ⟨rfl, rfl⟩)
    | ((with_reducible apply wpList_buildS hR); exact rfl; exact rfl; (first | exact bI0 | exact bI1 _); clear hR; intro g w hR; simp only [List.set_cons_succ, List.set_cons_zero])
    | ((with_reducible apply wpList_appN hR tInts.k); exact rfl; exact rfl; exact rfl; exact hS; (focus (repeat (with_reducible first | apply Les.head | apply Les.tail))); (focus (repeat (first | apply List.Mem.head | apply List.Mem.tail | apply List.mem_append_right))); (exact Part.oneI _); exact rfl; exact rfl; omega; clear hR hS; intro s v w hR hS; simp only [List.set_cons_succ, List.set_cons_zero])
    | (go_at_call 22; refine (bit_any _ k _ (by omega) (by omega)).mono ?_; rintro e w' ⟨rfl, rfl⟩; first | rw [hx] | rw [hy]))
        refine wp_loop_rounds 3 ?_
        rw [rounds_succ]
        go_wp2_with (first
    | (go_at_call 9; refine (size_any _ _).mono ?_; rintro e w' ⟨rfl, rfl⟩)
    | ((with_reducible apply wpList_buildS hR); exact rfl; exact rfl; (first | exact bI0 | exact bI1 _); clear hR; intro g w hR; simp only [List.set_cons_succ, List.set_cons_zero])
    | ((with_reducible apply wpList_appN hR tInts.k); exact rfl; exact rfl; exact rfl; exact hS; (focus (repeat (with_reducible first | apply Les.head | apply Les.tail))); (focus (repeat (first | apply List.Mem.head | apply List.Mem.tail | apply List.mem_append_right))); (exact Part.oneI _); exact rfl; exact rfl; omega; clear hR hS; intro s v w hR hS; simp only [List.set_cons_succ, List.set_cons_zero]))
        rw [rounds_succ]
        go_wp2_with (first
    | (go_at_call 9; refine (size_any _ _).mono ?_; rintro e w' ⟨rfl, rfl⟩)
    | ((with_reducible apply wpList_buildS hR); exact rfl; exact rfl; (first | exact bI0 | exact bI1 _); clear hR; intro g w hR; simp only [List.set_cons_succ, List.set_cons_zero])
    | ((with_reducible apply wpList_appN hR tInts.k); exact rfl; exact rfl; exact rfl; exact hS; (focus (repeat (with_reducible first | apply Les.head | apply Les.tail))); (focus (repeat (first | apply List.Mem.head | apply List.Mem.tail | apply List.mem_append_right))); (exact Part.oneI _); exact rfl; exact rfl; omega; clear hR hS; intro s v w hR hS; simp only [List.set_cons_succ, List.set_cons_zero]))
        · go_roundw
          case rel hk3 =>
            exact ⟨k + 1, xs ++ [x + 2 - (y + z)], ⟨by omega, val_int (by omega), val_int (by rw [HZ.out]; rfl), val_int (by rw [← hz]; rfl), val_int (by exact fa_yes (by omega) (car4 (by omega) HZ.out rfl)), by rw [List.length_append, HL.out]; rfl, ones_snoc HO.out (by omega), HN.out, BitsIs.of hR (by (focus (repeat (with_reducible first | apply Les.head | apply Les.tail)))) hS (by rw [List.length_append, HL.out]; rfl) (by rw [cellsN_snoc]; exact congrArg (fun z => cellsN xs ++ [Value.int .i64 z]) (by omega))⟩⟩
          case measure => simp [intOf]; omega
        · go_roundw
          case rel hk3 =>
            exact ⟨k + 1, xs ++ [x + 2 - (y + z)], ⟨by omega, val_int (by omega), val_int (by rw [HZ.out]; rfl), val_int (by rw [← hz]; rfl), val_int (by rw [fa_other (by omega)]), by rw [List.length_append, HL.out]; rfl, ones_snoc HO.out (by omega), HN.out, BitsIs.of hR (by (focus (repeat (with_reducible first | apply Les.head | apply Les.tail)))) hS (by rw [List.length_append, HL.out]; rfl) (by rw [cellsN_snoc]; exact congrArg (fun z => cellsN xs ++ [Value.int .i64 z]) (by omega))⟩⟩
          case measure => simp [intOf]; omega
    · have e : k = sizeN wide := by omega
      subst e
      obtain ⟨av, cap, rfl, hsrc, hO⟩ := BitsIs.src ⟨s, hR, hS⟩ (by intro e; rw [e] at hl; simp at hl; omega)
      have hV := diff_end ha hb hc hl hone hsum
      have hlt' := subV_lt wide a b c
      clear hR hS hsum
      have hR := hO
      clear hO
      have HOF := Lib.hid (fun w (h : SrcI w av xs) => of_any xs av cap w h hone (by omega))
      rw [hV] at HOF
      have hid := cutN_id hlt'
      have hz1 := borN_le a b c (sizeN wide)
      have hz2 := borN_le a b c (sizeN wide - 1)
      have HV : Hid (fl 16 (borN a b c 4 == 1) + fl 1 (borN a b c (sizeN wide) == 1) + fl 2048 (borN a b c (sizeN wide) != borN a b c (sizeN wide - 1)) + signsN wide (subV wide a b c) = subF wide a b c) := Lib.hid (sumF_add wide (subV wide a b c) _ _ _ hz1 hz2 hid)
      rw [show (decide (4 ≤ sizeN wide) && borN a b c 4 == 1) = (borN a b c 4 == 1) by rw [decide_eq_true (by omega), Bool.true_and]]
      have hfa := fl_le 16 (borN a b c 4 == 1)
      generalize fl 16 (borN a b c 4 == 1) = A at *
      generalize borN a b c (sizeN wide) = z at *
      generalize borN a b c (sizeN wide - 1) = u at *
      have HS := Lib.hid hsrc
      have hsg := signsN_le wide (subV wide a b c)
      clear hone hV hl hid hsrc
      rcases (by omega : z = 0 ∨ z = 1) with rfl | rfl <;> rcases (by omega : u = 0 ∨ u = 1) with rfl | rfl
      all_goals
        go_wp2_with (first
    | (go_at_call 9; refine (size_any _ _).mono ?_; rintro e w' ⟨rfl, rfl⟩)
    | (go_at_call 35; refine (HOF.out _ HS.out).mono ?_; rintro e w' ⟨rfl, hb⟩; replace hR := hR.grow hb; clear hb)
    | (go_at_call 13; refine (signsR_any _ _ _ (by omega)).mono ?_; rintro e w' ⟨rfl, rfl⟩))
        go_ret2
        refine ⟨ret_int2 rfl ?_, hR.below⟩
        rw [← HV.out]
        simp [fl]
        try omega
end Go.Proofs.Ytpkobahelnopmaa
