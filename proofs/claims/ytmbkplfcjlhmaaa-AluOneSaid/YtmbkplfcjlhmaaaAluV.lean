




/- The contracts of what the document's own texts put together bit by bit, and of Do of hansomref08. No statement of the seat is proved here. -/
import Derived.Test.YtmbkplfcjlhmaaaAluU
import Derived.Test.YtmbkplfcjlhmaaaAlu
namespace Go.Proofs.Ytmbkplfcjlhmaaa
open Go.ChangeShapes Go.WideShapes Go.ChangeAt Go.RowKit
set_option linter.unusedVariables false
set_option linter.unusedSimpArgs false

theorem on_bit {z k : Nat} {t : Prop} [Decidable t] (h : onB z k = decide t) : bitN z k = if t then 1 else 0 := by
  have := bitN_le z k
  unfold onB at h
  split
  · rename_i ht
    rw [decide_eq_true ht] at h
    exact beq_iff_eq.1 h
  · rename_i ht
    rw [decide_eq_false ht] at h
    have := beq_eq_false_iff_ne.1 h
    omega
theorem bit_or (a b k : Nat) : bitN (a ||| b) k = if 1 ≤ bitN a k + bitN b k then 1 else 0 := by
  have h1 := bitN_le a k
  have h2 := bitN_le b k
  refine on_bit ?_
  rw [on_or]; unfold onB
  rcases (by omega : bitN a k = 0 ∨ bitN a k = 1) with e | e <;> rcases (by omega : bitN b k = 0 ∨ bitN b k = 1) with f | f <;> rw [e, f] <;> rfl
theorem bit_and (a b k : Nat) : bitN (a &&& b) k = if 2 ≤ bitN a k + bitN b k then 1 else 0 := by
  have h1 := bitN_le a k
  have h2 := bitN_le b k
  refine on_bit ?_
  rw [on_and]; unfold onB
  rcases (by omega : bitN a k = 0 ∨ bitN a k = 1) with e | e <;> rcases (by omega : bitN b k = 0 ∨ bitN b k = 1) with f | f <;> rw [e, f] <;> rfl
theorem bit_xor (a b k : Nat) : bitN (a ^^^ b) k = if bitN a k + bitN b k = 1 then 1 else 0 := by
  have h1 := bitN_le a k
  have h2 := bitN_le b k
  refine on_bit ?_
  rw [on_xor]; unfold onB
  rcases (by omega : bitN a k = 0 ∨ bitN a k = 1) with e | e <;> rcases (by omega : bitN b k = 0 ∨ bitN b k = 1) with f | f <;> rw [e, f] <;> rfl
/-- How far it has come. -/
structure EachIs (w0 : World) (V : Nat) (vb vi : Value) (wx : World) (k : Nat) (xs : List Nat) : Prop where
  le : k ≤ 16
  at_ : vi = .int .i64 k
  len : xs.length = k
  one : ∀ x ∈ xs, x ≤ 1
  sum : ofN xs = V % 2 ^ k
  bits : BitsIs w0 xs vb wx
set_option maxHeartbeats 4000000 in
theorem each_or (a b : Nat) (w0 : World) (ha : a ≤ 65535) (hb : b ≤ 65535) :
    Calls Try.prog 19 #[.int .u16 a, .int .u16 b, .int .i64 1, .bool false] w0 fun e w' => e = .returned (.int .u16 ((a ||| b) : Nat)) ∧ Below w0.heap.size w0 w' := by
  have hR := Own.start w0
  have hV16 : (a ||| b) ≤ 65535 := or_le ha hb
  have hbit : ∀ k, bitN ((a ||| b)) k = if 1 ≤ bitN a k + bitN b k then 1 else 0 := fun k => bit_or a b k
  generalize (a ||| b) = V at *
  go_enter Try.func19, Try.ntmps19
  go_wp2_with (first
    | ((with_reducible apply wpList_buildS hR); exact rfl; exact rfl; (first | exact bI0 | exact bI1 _); clear hR; intro g w hR; simp only [List.set_cons_succ, List.set_cons_zero])
    | ((with_reducible apply wpList_appN hR tInts.k); exact rfl; exact rfl; exact rfl; exact hS; (focus (repeat (with_reducible first | apply Les.head | apply Les.tail))); (focus (repeat (first | apply List.Mem.head | apply List.Mem.tail | apply List.mem_append_right))); (exact Part.oneI _); exact rfl; exact rfl; omega; clear hR hS; intro s v w hR hS; simp only [List.set_cons_succ, List.set_cons_zero]))
  go_loopw [9, 10] (fun vb vi wr => ∃ (k : Nat) (xs : List Nat), EachIs w0 V vb vi wr k xs) (fun _ i _ => 16 - (intOf i).toNat)
  case atStart =>
    exact ⟨0, [], ⟨by omega, rfl, rfl, (fun _ h => nomatch h), by simp [ofN, Nat.mod_one], BitsIs.of hR (Les.head (s := [_])) (Sl.ofIs (SlIs.all rfl (by decide))) rfl rfl⟩⟩
  case round =>
    clear hR
    obtain ⟨k, xs, ⟨hk, rfl, hl, hone, hsum, ⟨s, hR, hS⟩⟩⟩ := hrel
    by_cases hlt : k < 16
    · have HN := Lib.hid (bits_next (V := V) hl hsum)
      have HL := Lib.hid hl
      have HO := Lib.hid hone
      have h1 := bitN_le a k
      have h2 := bitN_le b k
      rw [hl] at hS
      clear hsum hl hone
      have hz := hbit k
      clear hbit
      generalize hx : bitN a k = x at *
      generalize hy : bitN b k = y at *
      have HZ := Lib.hid hz
      clear hz
      go_wp2_with (first
    | ((with_reducible apply wpList_buildS hR); exact rfl; exact rfl; (first | exact bI0 | exact bI1 _); clear hR; intro g w hR; simp only [List.set_cons_succ, List.set_cons_zero])
    | ((with_reducible apply wpList_appN hR tInts.k); exact rfl; exact rfl; exact rfl; exact hS; (focus (repeat (with_reducible first | apply Les.head | apply Les.tail))); (focus (repeat (first | apply List.Mem.head | apply List.Mem.tail | apply List.mem_append_right))); (exact Part.oneI _); exact rfl; exact rfl; omega; clear hR hS; intro s v w hR hS; simp only [List.set_cons_succ, List.set_cons_zero])
    | (go_at_call 24; refine (bit_any _ k _ (by omega) (by omega)).mono ?_; rintro e w' ⟨rfl, rfl⟩; first | rw [hx] | rw [hy]))
      · go_roundw
        case rel hq =>
          have e1 : bitN V k = 1 := by rw [HZ.out, if_pos (by first | omega | (have := beq_iff_eq.1 hq; omega))]
          rw [e1] at HN
          exact ⟨k + 1, xs ++ [1], ⟨by omega, val_int (by omega), by rw [List.length_append, HL.out]; rfl, ones_snoc HO.out (by omega), HN.out, BitsIs.of hR (by (focus (repeat (with_reducible first | apply Les.head | apply Les.tail)))) hS (by rw [List.length_append, HL.out]; rfl) (by rw [cellsN_snoc]; rfl)⟩⟩
        case measure => simp [intOf]; omega
      · go_roundw
        case rel hq =>
          have e1 : bitN V k = 0 := by rw [HZ.out, if_neg (by first | omega | (have := beq_eq_false_iff_ne.1 hq; omega))]
          rw [e1] at HN
          exact ⟨k + 1, xs ++ [0], ⟨by omega, val_int (by omega), by rw [List.length_append, HL.out]; rfl, ones_snoc HO.out (by omega), HN.out, BitsIs.of hR (by (focus (repeat (with_reducible first | apply Les.head | apply Les.tail)))) hS (by rw [List.length_append, HL.out]; rfl) (by rw [cellsN_snoc]; rfl)⟩⟩
        case measure => simp [intOf]; omega
    · have e : k = 16 := by omega
      subst e
      obtain ⟨av, cap, rfl, hsrc, hO⟩ := BitsIs.src ⟨s, hR, hS⟩ (by intro e; rw [e] at hl; simp at hl)
      have hV : ofN xs = V := by rw [hsum]; omega
      clear hR hS hsum
      have hR := hO
      clear hO
      have HOF := Lib.hid (fun w (h : SrcI w av xs) => of_any xs av cap w h hone (by omega))
      rw [hV] at HOF
      have HS := Lib.hid hsrc
      clear hone hV hl hsrc
      go_wp2_with (first
    | (go_at_call 27; refine (HOF.out _ HS.out).mono ?_; rintro e w' ⟨rfl, hb⟩; replace hR := hR.grow hb; clear hb))
      go_ret
      exact ⟨rfl, hR.below⟩
set_option maxHeartbeats 4000000 in
theorem each_and (a b : Nat) (w0 : World) (ha : a ≤ 65535) (hb : b ≤ 65535) :
    Calls Try.prog 19 #[.int .u16 a, .int .u16 b, .int .i64 2, .bool false] w0 fun e w' => e = .returned (.int .u16 ((a &&& b) : Nat)) ∧ Below w0.heap.size w0 w' := by
  have hR := Own.start w0
  have hV16 : (a &&& b) ≤ 65535 := and_le hb
  have hbit : ∀ k, bitN ((a &&& b)) k = if 2 ≤ bitN a k + bitN b k then 1 else 0 := fun k => bit_and a b k
  generalize (a &&& b) = V at *
  go_enter Try.func19, Try.ntmps19
  go_wp2_with (first
    | ((with_reducible apply wpList_buildS hR); exact rfl; exact rfl; (first | exact bI0 | exact bI1 _); clear hR; intro g w hR; simp only [List.set_cons_succ, List.set_cons_zero])
    | ((with_reducible apply wpList_appN hR tInts.k); exact rfl; exact rfl; exact rfl; exact hS; (focus (repeat (with_reducible first | apply Les.head | apply Les.tail))); (focus (repeat (first | apply List.Mem.head | apply List.Mem.tail | apply List.mem_append_right))); (exact Part.oneI _); exact rfl; exact rfl; omega; clear hR hS; intro s v w hR hS; simp only [List.set_cons_succ, List.set_cons_zero]))
  go_loopw [9, 10] (fun vb vi wr => ∃ (k : Nat) (xs : List Nat), EachIs w0 V vb vi wr k xs) (fun _ i _ => 16 - (intOf i).toNat)
  case atStart =>
    exact ⟨0, [], ⟨by omega, rfl, rfl, (fun _ h => nomatch h), by simp [ofN, Nat.mod_one], BitsIs.of hR (Les.head (s := [_])) (Sl.ofIs (SlIs.all rfl (by decide))) rfl rfl⟩⟩
  case round =>
    clear hR
    obtain ⟨k, xs, ⟨hk, rfl, hl, hone, hsum, ⟨s, hR, hS⟩⟩⟩ := hrel
    by_cases hlt : k < 16
    · have HN := Lib.hid (bits_next (V := V) hl hsum)
      have HL := Lib.hid hl
      have HO := Lib.hid hone
      have h1 := bitN_le a k
      have h2 := bitN_le b k
      rw [hl] at hS
      clear hsum hl hone
      have hz := hbit k
      clear hbit
      generalize hx : bitN a k = x at *
      generalize hy : bitN b k = y at *
      have HZ := Lib.hid hz
      clear hz
      go_wp2_with (first
    | ((with_reducible apply wpList_buildS hR); exact rfl; exact rfl; (first | exact bI0 | exact bI1 _); clear hR; intro g w hR; simp only [List.set_cons_succ, List.set_cons_zero])
    | ((with_reducible apply wpList_appN hR tInts.k); exact rfl; exact rfl; exact rfl; exact hS; (focus (repeat (with_reducible first | apply Les.head | apply Les.tail))); (focus (repeat (first | apply List.Mem.head | apply List.Mem.tail | apply List.mem_append_right))); (exact Part.oneI _); exact rfl; exact rfl; omega; clear hR hS; intro s v w hR hS; simp only [List.set_cons_succ, List.set_cons_zero])
    | (go_at_call 24; refine (bit_any _ k _ (by omega) (by omega)).mono ?_; rintro e w' ⟨rfl, rfl⟩; first | rw [hx] | rw [hy]))
      · go_roundw
        case rel hq =>
          have e1 : bitN V k = 1 := by rw [HZ.out, if_pos (by first | omega | (have := beq_iff_eq.1 hq; omega))]
          rw [e1] at HN
          exact ⟨k + 1, xs ++ [1], ⟨by omega, val_int (by omega), by rw [List.length_append, HL.out]; rfl, ones_snoc HO.out (by omega), HN.out, BitsIs.of hR (by (focus (repeat (with_reducible first | apply Les.head | apply Les.tail)))) hS (by rw [List.length_append, HL.out]; rfl) (by rw [cellsN_snoc]; rfl)⟩⟩
        case measure => simp [intOf]; omega
      · go_roundw
        case rel hq =>
          have e1 : bitN V k = 0 := by rw [HZ.out, if_neg (by first | omega | (have := beq_eq_false_iff_ne.1 hq; omega))]
          rw [e1] at HN
          exact ⟨k + 1, xs ++ [0], ⟨by omega, val_int (by omega), by rw [List.length_append, HL.out]; rfl, ones_snoc HO.out (by omega), HN.out, BitsIs.of hR (by (focus (repeat (with_reducible first | apply Les.head | apply Les.tail)))) hS (by rw [List.length_append, HL.out]; rfl) (by rw [cellsN_snoc]; rfl)⟩⟩
        case measure => simp [intOf]; omega
    · have e : k = 16 := by omega
      subst e
      obtain ⟨av, cap, rfl, hsrc, hO⟩ := BitsIs.src ⟨s, hR, hS⟩ (by intro e; rw [e] at hl; simp at hl)
      have hV : ofN xs = V := by rw [hsum]; omega
      clear hR hS hsum
      have hR := hO
      clear hO
      have HOF := Lib.hid (fun w (h : SrcI w av xs) => of_any xs av cap w h hone (by omega))
      rw [hV] at HOF
      have HS := Lib.hid hsrc
      clear hone hV hl hsrc
      go_wp2_with (first
    | (go_at_call 27; refine (HOF.out _ HS.out).mono ?_; rintro e w' ⟨rfl, hb⟩; replace hR := hR.grow hb; clear hb))
      go_ret
      exact ⟨rfl, hR.below⟩
set_option maxHeartbeats 4000000 in
theorem each_xor (a b : Nat) (w0 : World) (ha : a ≤ 65535) (hb : b ≤ 65535) :
    Calls Try.prog 19 #[.int .u16 a, .int .u16 b, .int .i64 0, .bool true] w0 fun e w' => e = .returned (.int .u16 ((a ^^^ b) : Nat)) ∧ Below w0.heap.size w0 w' := by
  have hR := Own.start w0
  have hV16 : (a ^^^ b) ≤ 65535 := xor_le ha hb
  have hbit : ∀ k, bitN ((a ^^^ b)) k = if bitN a k + bitN b k = 1 then 1 else 0 := fun k => bit_xor a b k
  generalize (a ^^^ b) = V at *
  go_enter Try.func19, Try.ntmps19
  go_wp2_with (first
    | ((with_reducible apply wpList_buildS hR); exact rfl; exact rfl; (first | exact bI0 | exact bI1 _); clear hR; intro g w hR; simp only [List.set_cons_succ, List.set_cons_zero])
    | ((with_reducible apply wpList_appN hR tInts.k); exact rfl; exact rfl; exact rfl; exact hS; (focus (repeat (with_reducible first | apply Les.head | apply Les.tail))); (focus (repeat (first | apply List.Mem.head | apply List.Mem.tail | apply List.mem_append_right))); (exact Part.oneI _); exact rfl; exact rfl; omega; clear hR hS; intro s v w hR hS; simp only [List.set_cons_succ, List.set_cons_zero]))
  go_loopw [9, 10] (fun vb vi wr => ∃ (k : Nat) (xs : List Nat), EachIs w0 V vb vi wr k xs) (fun _ i _ => 16 - (intOf i).toNat)
  case atStart =>
    exact ⟨0, [], ⟨by omega, rfl, rfl, (fun _ h => nomatch h), by simp [ofN, Nat.mod_one], BitsIs.of hR (Les.head (s := [_])) (Sl.ofIs (SlIs.all rfl (by decide))) rfl rfl⟩⟩
  case round =>
    clear hR
    obtain ⟨k, xs, ⟨hk, rfl, hl, hone, hsum, ⟨s, hR, hS⟩⟩⟩ := hrel
    by_cases hlt : k < 16
    · have HN := Lib.hid (bits_next (V := V) hl hsum)
      have HL := Lib.hid hl
      have HO := Lib.hid hone
      have h1 := bitN_le a k
      have h2 := bitN_le b k
      rw [hl] at hS
      clear hsum hl hone
      have hz := hbit k
      clear hbit
      generalize hx : bitN a k = x at *
      generalize hy : bitN b k = y at *
      have HZ := Lib.hid hz
      clear hz
      go_wp2_with (first
    | ((with_reducible apply wpList_buildS hR); exact rfl; exact rfl; (first | exact bI0 | exact bI1 _); clear hR; intro g w hR; simp only [List.set_cons_succ, List.set_cons_zero])
    | ((with_reducible apply wpList_appN hR tInts.k); exact rfl; exact rfl; exact rfl; exact hS; (focus (repeat (with_reducible first | apply Les.head | apply Les.tail))); (focus (repeat (first | apply List.Mem.head | apply List.Mem.tail | apply List.mem_append_right))); (exact Part.oneI _); exact rfl; exact rfl; omega; clear hR hS; intro s v w hR hS; simp only [List.set_cons_succ, List.set_cons_zero])
    | (go_at_call 24; refine (bit_any _ k _ (by omega) (by omega)).mono ?_; rintro e w' ⟨rfl, rfl⟩; first | rw [hx] | rw [hy]))
      · go_roundw
        case rel hq =>
          have e1 : bitN V k = 1 := by rw [HZ.out, if_pos (by first | omega | (have := beq_iff_eq.1 hq; omega))]
          rw [e1] at HN
          exact ⟨k + 1, xs ++ [1], ⟨by omega, val_int (by omega), by rw [List.length_append, HL.out]; rfl, ones_snoc HO.out (by omega), HN.out, BitsIs.of hR (by (focus (repeat (with_reducible first | apply Les.head | apply Les.tail)))) hS (by rw [List.length_append, HL.out]; rfl) (by rw [cellsN_snoc]; rfl)⟩⟩
        case measure => simp [intOf]; omega
      · go_roundw
        case rel hq =>
          have e1 : bitN V k = 0 := by rw [HZ.out, if_neg (by first | omega | (have := beq_eq_false_iff_ne.1 hq; omega))]
          rw [e1] at HN
          exact ⟨k + 1, xs ++ [0], ⟨by omega, val_int (by omega), by rw [List.length_append, HL.out]; rfl, ones_snoc HO.out (by omega), HN.out, BitsIs.of hR (by (focus (repeat (with_reducible first | apply Les.head | apply Les.tail)))) hS (by rw [List.length_append, HL.out]; rfl) (by rw [cellsN_snoc]; rfl)⟩⟩
        case measure => simp [intOf]; omega
    · have e : k = 16 := by omega
      subst e
      obtain ⟨av, cap, rfl, hsrc, hO⟩ := BitsIs.src ⟨s, hR, hS⟩ (by intro e; rw [e] at hl; simp at hl)
      have hV : ofN xs = V := by rw [hsum]; omega
      clear hR hS hsum
      have hR := hO
      clear hO
      have HOF := Lib.hid (fun w (h : SrcI w av xs) => of_any xs av cap w h hone (by omega))
      rw [hV] at HOF
      have HS := Lib.hid hsrc
      clear hone hV hl hsrc
      go_wp2_with (first
    | (go_at_call 27; refine (HOF.out _ HS.out).mono ?_; rintro e w' ⟨rfl, hb⟩; replace hR := hR.grow hb; clear hb))
      go_ret
      exact ⟨rfl, hR.below⟩
end Go.Proofs.Ytmbkplfcjlhmaaa
