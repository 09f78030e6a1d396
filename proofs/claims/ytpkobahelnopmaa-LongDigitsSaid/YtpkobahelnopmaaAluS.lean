




/- Contracts of the document's own sums and differences, bit by bit: Add, Sub, each and Do of hansomref08. No statement of the seat is proved here. -/
import Derived.Test.YtpkobahelnopmaaAluR
namespace Go.Proofs.Ytpkobahelnopmaa
open Go.ChangeShapes Go.WideShapes Go.ChangeAt Go.RowKit
set_option linter.unusedVariables false
set_option linter.unusedSimpArgs false

theorem Les.only {s : List RowT} : Les s s [] := by
  have := Les.head (s := s) (l := [])
  rwa [List.append_nil] at this
/-- Bits in a row of the call's own. -/
def BitsIs (w0 : World) (xs : List Nat) (v : Value) (wx : World) : Prop := ∃ s, Own w0 wx (s ++ []) ∧ Sl 3 1 s v xs.length (cellsN xs)
theorem BitsIs.of {w0 wx : World} {xs : List Nat} {zs : List Value} {n : Nat} {L1 L2 s : List RowT} {v : Value} (hR : Own w0 wx L1) (hd : Les s L1 L2) (hS : Sl 3 1 s v n zs) (hn : n = xs.length) (he : zs = cellsN xs) : BitsIs w0 xs v wx := by
  subst hn
  exact ⟨s, (hR.les hd).drop (List.Sublist.append (List.Sublist.refl _) (List.nil_sublist _)), hS.cast he⟩
/-- Where they lie, once there are some. -/
theorem BitsIs.src {w0 wx : World} {xs : List Nat} {v : Value} (h : BitsIs w0 xs v wx) (hx : xs ≠ []) : ∃ a cap, v = .slice (some a) xs.length cap ∧ SrcI wx a xs ∧ Own w0 wx [] := by
  obtain ⟨s, hR, hS⟩ := h
  obtain ⟨g, cap, cur, h1, h2, h3⟩ := hS.row (by intro e; exact hx (List.eq_nil_of_map_eq_nil e))
  subst h1
  refine ⟨⟨g, 0, none⟩, cap, h2, ⟨fun j u hu => ?_⟩, hR.drop (List.nil_sublist _)⟩
  rw [addr_mid, cell_of_row _ _ _ _ _ _ (hR.get (.head _))]
  exact (Part.ofIs h3).get j _ (by unfold cellsN; rw [List.getElem?_map, hu]; rfl)
theorem ones_snoc {xs : List Nat} {d : Nat} (h : ∀ x ∈ xs, x ≤ 1) (hd : d ≤ 1) : ∀ x ∈ xs ++ [d], x ≤ 1 := by
  intro x hx
  rcases List.mem_append.1 hx with hx | hx
  · exact h x hx
  · rw [List.mem_singleton.1 hx]; exact hd
theorem Part.oneI (x : Int) : Part #[.int .i64 x] 0 [.int .i64 x] := Part.all _
theorem fa_other {k : Nat} {q : Bool} (h : k ≠ 3) : fl 16 (decide (4 ≤ k) && q) = fl 16 (decide (4 ≤ k + 1) && q) := by
  rw [show decide (4 ≤ k) = decide (4 ≤ k + 1) from decide_eq_decide.2 (by omega)]
theorem fa_no {k z : Nat} (h : k = 3) (hz : z ≠ 1) : fl 16 (decide (4 ≤ k) && z == 1) = fl 16 (decide (4 ≤ k + 1) && z == 1) := by
  rw [beq_eq_false_iff_ne.2 hz, Bool.and_false, Bool.and_false]
theorem fa_yes {k z : Nat} (h : k = 3) (hz : z = 1) : IntKind.u16.wrap ((fl 16 (decide (4 ≤ k) && z == 1) : Nat) + 16) = (fl 16 (decide (4 ≤ k + 1) && z == 1) : Nat) := by
  subst h; subst hz; decide +kernel
theorem car4 {f : Nat → Nat} {k s : Nat} (h : k = 3) (hz : f (k + 1) = s) (hs : s = 1) : f 4 = 1 := by subst h; rw [hz, hs]
theorem car4n {f : Nat → Nat} {k s : Nat} (h : k = 3) (hz : f (k + 1) = s) (hs : s ≠ 1) : f 4 ≠ 1 := by subst h; rw [hz]; exact hs
theorem signsN_le (wide : Bool) (x : Nat) : signsN wide x ≤ 2261 := flagsN_le _ _ _ _ _ _
theorem sumF_add (wide : Bool) (v : Nat) (A : Bool) (z u : Nat) (hz : z ≤ 1) (hu : u ≤ 1) (hv : cutN wide v = v) :
    fl 16 A + fl 1 (z == 1) + fl 2048 (z != u) + signsN wide v = sumF wide v (z == 1) A (z != u) := by
  unfold signsN
  rw [hv]
  unfold sumF flagsN
  simp only [show ∀ k, fl k false = 0 from fun _ => rfl]
  omega
/-- How far a sum has come. -/
structure SumIs (w0 : World) (wide : Bool) (a b c : Nat) (vc vb vl vf vi : Value) (wx : World) (k : Nat) (xs : List Nat) : Prop where
  le : k ≤ sizeN wide
  at_ : vi = .int .i64 k
  cy : vc = .int .i64 (carN a b c k : Nat)
  last : vl = .int .i64 (carN a b c (k - 1) : Nat)
  f : vf = .int .u16 (fl 16 (decide (4 ≤ k) && carN a b c 4 == 1) : Nat)
  len : xs.length = k
  one : ∀ x ∈ xs, x ≤ 1
  sum : ofN xs + 2 ^ k * carN a b c k = a % 2 ^ k + b % 2 ^ k + c
  bits : BitsIs w0 xs vb wx
set_option maxHeartbeats 4000000 in
theorem addR_any (a b c : Nat) (wide : Bool) (w0 : World) (ha : a < 2 * topN wide) (hb : b < 2 * topN wide) (hc : c ≤ 1) :
    Calls Try.prog 16 #[.int .u16 a, .int .u16 b, .int .i64 c, .bool wide] w0 fun e w' => e = .returned (.tuple #[.int .u16 (addV wide a b c : Nat), .int .u16 (addF wide a b c : Nat)]) ∧ Below w0.heap.size w0 w' := by
  have hR := Own.start w0
  have ht := topN_le wide
  have hsz : sizeN wide ≤ 16 ∧ 8 ≤ sizeN wide := by cases wide <;> decide
  go_enter Try.func16, Try.ntmps16
  go_wp2_with (first
    | (go_at_call 9; refine (size_any _ _).mono ?_; rintro e w' ⟨rfl, rfl⟩)
    | ((with_reducible apply wpList_buildS hR); exact rfl; exact rfl; (first | exact bI0 | exact bI1 _); clear hR; intro g w hR; simp only [List.set_cons_succ, List.set_cons_zero])
    | ((with_reducible apply wpList_appN hR tInts.k); exact rfl; exact rfl; exact rfl; exact hS; (focus (repeat (with_reducible first | apply Les.head | apply Les.tail))); (focus (repeat (first | apply List.Mem.head | apply List.Mem.tail | apply List.mem_append_right))); (exact Part.oneI _); exact rfl; exact rfl; omega; clear hR hS; intro s v w hR hS; simp only [List.set_cons_succ, List.set_cons_zero]))
  go_loopw [2, 10, 11, 12, 13] (fun vc vb vl vf vi wr => ∃ (k : Nat) (xs : List Nat), SumIs w0 wide a b c vc vb vl vf vi wr k xs) (fun _ _ _ _ i _ => sizeN wide - (intOf i).toNat)
  case atStart =>
    exact ⟨0, [], ⟨by omega, rfl, by rw [carN_zero], by rw [carN_zero], by simp [fl], rfl, (fun _ h => nomatch h), by simp [ofN, carN_zero, Nat.mod_one], BitsIs.of hR (Les.head (s := [_])) (Sl.ofIs (SlIs.all rfl (by decide))) rfl rfl⟩⟩
  case round =>
    clear hR
    obtain ⟨k, xs, ⟨hk, rfl, rfl, rfl, rfl, hl, hone, hsum, ⟨s, hR, hS⟩⟩⟩ := hrel
    by_cases hlt : k < sizeN wide
    · have HN := Lib.hid (sum_next hl hsum)
      have HL := Lib.hid hl
      have HO := Lib.hid hone
      have h1 := bitN_le a k
      have h2 := bitN_le b k
      have h3 := carN_le a b c k hc
      rw [hl] at hS
      clear hsum hl hone
      have HZ := Lib.hid (carN_next a b c k)
      generalize hx : bitN a k = x at *
      generalize hy : bitN b k = y at *
      generalize hz : carN a b c k = z at *
      go_wp2_with (first
    | (go_at_call 9; refine (size_any _ _).mono ?_; rintro e w' ⟨rfl, rfl⟩)
    | ((with_reducible apply wpList_buildS hR); exact rfl; exact rfl; (first | exact bI0 | exact bI1 _); clear hR; intro g w hR; simp only [List.set_cons_succ, List.set_cons_zero])
    | ((with_reducible apply wpList_appN hR tInts.k); exact rfl; exact rfl; exact rfl; exact hS; (focus (repeat (with_reducible first | apply Les.head | apply Les.tail))); (focus (repeat (first | apply List.Mem.head | apply List.Mem.tail | apply List.mem_append_right))); (exact Part.oneI _); exact rfl; exact rfl; omega; clear hR hS; intro s v w hR hS; simp only [List.set_cons_succ, List.set_cons_zero])
    | (go_at_call 22; refine (bit_any _ k _ (by omega) (by omega)).mono ?_; rintro e w' ⟨rfl, rfl⟩; first | rw [hx] | rw [hy]))
      · go_roundw
        case rel hk3 hk4 =>
          exact ⟨k + 1, xs ++ [(x + y + z) % 2], ⟨by omega, val_int (by omega), val_int (by rw [HZ.out]; rfl), val_int (by rw [← hz]; rfl), val_int (by exact fa_yes (by omega) (car4 (by omega) HZ.out (by have := beq_iff_eq.1 hk4; omega))), by rw [List.length_append, HL.out]; rfl, ones_snoc HO.out (by omega), HN.out, BitsIs.of hR (by (focus (repeat (with_reducible first | apply Les.head | apply Les.tail)))) hS (by rw [List.length_append, HL.out]; rfl) (by rw [cellsN_snoc]; rfl)⟩⟩
        case measure => simp [intOf]; omega
      · go_roundw
        case rel hk3 hk4 =>
          exact ⟨k + 1, xs ++ [(x + y + z) % 2], ⟨by omega, val_int (by omega), val_int (by rw [HZ.out]; rfl), val_int (by rw [← hz]; rfl), val_int (by rw [fa_no (by omega) (car4n (by omega) HZ.out (by have := beq_eq_false_iff_ne.1 hk4; omega))]), by rw [List.length_append, HL.out]; rfl, ones_snoc HO.out (by omega), HN.out, BitsIs.of hR (by (focus (repeat (with_reducible first | apply Les.head | apply Les.tail)))) hS (by rw [List.length_append, HL.out]; rfl) (by rw [cellsN_snoc]; rfl)⟩⟩
        case measure => simp [intOf]; omega
      · go_roundw
        case rel hk3 =>
          exact ⟨k + 1, xs ++ [(x + y + z) % 2], ⟨by omega, val_int (by omega), val_int (by rw [HZ.out]; rfl), val_int (by rw [← hz]; rfl), val_int (by rw [fa_other (by omega)]), by rw [List.length_append, HL.out]; rfl, ones_snoc HO.out (by omega), HN.out, BitsIs.of hR (by (focus (repeat (with_reducible first | apply Les.head | apply Les.tail)))) hS (by rw [List.length_append, HL.out]; rfl) (by rw [cellsN_snoc]; rfl)⟩⟩
        case measure => simp [intOf]; omega
    · have e : k = sizeN wide := by omega
      subst e
      obtain ⟨av, cap, rfl, hsrc, hO⟩ := BitsIs.src ⟨s, hR, hS⟩ (by intro e; rw [e] at hl; simp at hl; omega)
      have hV := sum_end ha hb hc hl hone hsum
      have hlt' := addV_lt wide a b c
      clear hR hS hsum
      have hR := hO
      clear hO
      have HOF := Lib.hid (fun w (h : SrcI w av xs) => of_any xs av cap w h hone (by omega))
      rw [hV] at HOF
      have hid := cutN_id hlt'
      have hz1 := carN_le a b c (sizeN wide) hc
      have hz2 := carN_le a b c (sizeN wide - 1) hc
      have HV : Hid (fl 16 (carN a b c 4 == 1) + fl 1 (carN a b c (sizeN wide) == 1) + fl 2048 (carN a b c (sizeN wide) != carN a b c (sizeN wide - 1)) + signsN wide (addV wide a b c) = addF wide a b c) := Lib.hid (sumF_add wide (addV wide a b c) _ _ _ hz1 hz2 hid)
      rw [show (decide (4 ≤ sizeN wide) && carN a b c 4 == 1) = (carN a b c 4 == 1) by rw [decide_eq_true (by omega), Bool.true_and]]
      have hfa := fl_le 16 (carN a b c 4 == 1)
      generalize fl 16 (carN a b c 4 == 1) = A at *
      generalize carN a b c (sizeN wide) = z at *
      generalize carN a b c (sizeN wide - 1) = u at *
      have HS := Lib.hid hsrc
      have hsg := signsN_le wide (addV wide a b c)
      clear hone hV hl hid hsrc
      rcases (by omega : z = 0 ∨ z = 1) with rfl | rfl <;> rcases (by omega : u = 0 ∨ u = 1) with rfl | rfl
      all_goals
        go_wp2_with (first
    | (go_at_call 9; refine (size_any _ _).mono ?_; rintro e w' ⟨rfl, rfl⟩)
    | (go_at_call 35; refine (HOF.out _ HS.out).mono ?_; rintro e w' ⟨rfl, hb⟩; replace hR := hR.grow hb; clear hb)
    | (go_at_call 13; refine (signsR_any _ _ _ (by omega)).mono ?_; rintro e w' ⟨rfl, rfl⟩))
        go_ret2
        refine ⟨ret_int2 rfl ?_, hR.below⟩
        rw [← HV.out]
        simp [fl]
        try omega
end Go.Proofs.Ytpkobahelnopmaa
