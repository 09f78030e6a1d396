

/- Contracts of regs.Byte and regs.PutByte. No statement of the seat is proved here. -/
import Derived.Test.YtomdjaeefngcfaaRegs
namespace Go.Proofs.Ytomdjaeefngcfaa
open Go.ChangeShapes Go.WideShapes Go.ChangeAt Go.RowKit

def byteV (r : RegsZ) (n : Int) : Int := if inB n 8 then (if n < 4 then r.g (n % 4).toNat % 256 else r.g (n % 4).toNat / 256) else 0
def byteT (r : RegsZ) (n : Int) : Bool := if inB n 8 then !r.h (n % 4).toNat else true

set_option maxHeartbeats 2000000 in
theorem byte_any (r : RegsZ) (hr : r.ok) (n : Int) (w : World) (h0 : -9223372036854775808 ≤ n) (h1 : n ≤ 9223372036854775807) :
    Calls Try.prog 11 #[.agg (encRegs r), .int .i64 n] w fun e w' => e = .returned (.tuple #[.int .u8 (byteV r n), .bool (byteT r n)]) ∧ Below w.heap.size w w' := by
  have hR := Own.start w
  have hg := hr.g (n % 4).toNat
  clear hr
  by_cases hn : 0 ≤ n ∧ n < 8
  · obtain ⟨ha, hb⟩ := hn
    rw [show byteV r n = (if n < 4 then r.g (n % 4).toNat % 256 else r.g (n % 4).toNat / 256) from if_pos (inB_yes ha hb), show byteT r n = !r.h (n % 4).toNat from if_pos (inB_yes ha hb)]
    by_cases hc : n < 4
    · rw [if_pos hc]
      go_enter Try.func11, Try.ntmps11
      go_wp2_with (first
          | (go_at_call 12; refine (isOne_yes _ _ _ (by omega) (by omega) (by omega)).mono ?_; rintro e w' ⟨rfl, rfl⟩)
          | (apply wpList_box hR; exact rfl; exact rfl; clear hR; intro g w hR; simp only [List.set_cons_succ, List.set_cons_zero])
          | (apply wpList_make hR zRegs; exact rfl; clear hR; intro g w hR; simp only [List.set_cons_succ, List.set_cons_zero])
          | (apply wpList_make hR zVal; exact rfl; clear hR; intro g w hR; simp only [List.set_cons_succ, List.set_cons_zero])
          | (apply wpList_part hR tRegs; exact rfl; exact rfl; (focus (repeat (first | apply List.Mem.head | apply List.Mem.tail))); apply ext_regs; exact rfl; (simp only [List.set_cons_succ, List.set_cons_zero]; exact rfl))
          | (apply wpList_part hR tVal; exact rfl; exact rfl; (focus (repeat (first | apply List.Mem.head | apply List.Mem.tail))); (first | apply ext_val | (apply ext_g; omega) | (apply ext_s; omega)); exact rfl; (simp only [List.set_cons_succ, List.set_cons_zero]; exact rfl))
          | (apply wpList_one hR tWord; exact rfl; exact rfl; (focus (repeat (first | apply List.Mem.head | apply List.Mem.tail))); exact rfl; (simp only [List.set_cons_succ, List.set_cons_zero]; exact rfl))
          | (apply wpList_one hR tBool; exact rfl; exact rfl; (focus (repeat (first | apply List.Mem.head | apply List.Mem.tail))); exact rfl; (simp only [List.set_cons_succ, List.set_cons_zero]; exact rfl))
          | (apply wpList_put hR tRegs; exact rfl; exact rfl; exact rfl; (focus (repeat (first | apply List.Mem.head | apply List.Mem.tail))); apply put_regs; exact rfl; simp [encRegs]; apply one_regs; (focus (repeat (first | apply Upd.head | apply Upd.tail))); clear hR; intro w hR)
          | (apply wpList_put hR tVal; exact rfl; exact rfl; exact rfl; (focus (repeat (first | apply List.Mem.head | apply List.Mem.tail))); (first | apply put_val | (apply put_g; omega) | (apply put_s; omega)); exact rfl; (simp [encVal, encRegs] <;> omega); apply one_val; (focus (repeat (first | apply Upd.head | apply Upd.tail))); clear hR; intro w hR)
          | (apply wpList_built; exact rfl; exact rfl; (first | exact bVal0 | exact bVal1 _); (simp only [List.set_cons_succ, List.set_cons_zero]; exact rfl)))
      refine wp_region_rows hR [0, 1, 2, 3, 4, 5, 6, 7] 0 (by kernel_rfl) (by kernel_rfl) (by kernel_rfl) rfl ?_
      clear hR; intro hR
      repeat (refine wpT_step rfl ?_; first
          | (apply wpT1_part tRegs; exact rfl; exact rfl; (focus (repeat (first | apply List.Mem.head | apply List.Mem.tail))); apply ext_regs; exact rfl; (simp only [List.set_cons_succ, List.set_cons_zero]; exact rfl))
          | (apply wpT1_part tVal; exact rfl; exact rfl; (focus (repeat (first | apply List.Mem.head | apply List.Mem.tail))); (first | apply ext_val | (apply ext_g; omega) | (apply ext_s; omega)); exact rfl; (simp only [List.set_cons_succ, List.set_cons_zero]; exact rfl))
          | (apply wpT1_one tWord; exact rfl; exact rfl; (focus (repeat (first | apply List.Mem.head | apply List.Mem.tail))); exact rfl; (simp only [List.set_cons_succ, List.set_cons_zero]; exact rfl))
          | (apply wpT1_one tBool; exact rfl; exact rfl; (focus (repeat (first | apply List.Mem.head | apply List.Mem.tail))); exact rfl; (simp only [List.set_cons_succ, List.set_cons_zero]; exact rfl))
          | (apply wpT1_move; exact rfl; exact rfl; (simp only [List.set_cons_succ, List.set_cons_zero]; exact rfl))
          | (apply wpT1_assign; exact rfl; exact rfl; (simp only [List.set_cons_succ, List.set_cons_zero]; exact rfl))
          | (apply wpT1_pick; exact rfl; exact rfl; exact rfl; (simp only [List.set_cons_succ, List.set_cons_zero]; exact rfl))
          | (apply wpT1_call Try.call16; exact rfl; exact rfl; (intro w hC; exact tame_same (low_any _ _ (by omega) (by omega)) hC); (simp only [List.set_cons_succ, List.set_cons_zero]; exact rfl))
          | (apply wpT1_pure; exact rfl; intro K hK; go_simp; refine hK _ ?_; clear hK K; simp only [List.set_cons_succ, List.set_cons_zero]))
      refine wpG_end hR (by kernel_rfl) ?_
      clear hR; intro w hR
      go_wp2
      go_ret2
      exact ⟨rfl, hR.below⟩
    · rw [if_neg hc]
      go_enter Try.func11, Try.ntmps11
      go_wp2_with (first
          | (go_at_call 12; refine (isOne_yes _ _ _ (by omega) (by omega) (by omega)).mono ?_; rintro e w' ⟨rfl, rfl⟩)
          | (apply wpList_box hR; exact rfl; exact rfl; clear hR; intro g w hR; simp only [List.set_cons_succ, List.set_cons_zero])
          | (apply wpList_make hR zRegs; exact rfl; clear hR; intro g w hR; simp only [List.set_cons_succ, List.set_cons_zero])
          | (apply wpList_make hR zVal; exact rfl; clear hR; intro g w hR; simp only [List.set_cons_succ, List.set_cons_zero])
          | (apply wpList_part hR tRegs; exact rfl; exact rfl; (focus (repeat (first | apply List.Mem.head | apply List.Mem.tail))); apply ext_regs; exact rfl; (simp only [List.set_cons_succ, List.set_cons_zero]; exact rfl))
          | (apply wpList_part hR tVal; exact rfl; exact rfl; (focus (repeat (first | apply List.Mem.head | apply List.Mem.tail))); (first | apply ext_val | (apply ext_g; omega) | (apply ext_s; omega)); exact rfl; (simp only [List.set_cons_succ, List.set_cons_zero]; exact rfl))
          | (apply wpList_one hR tWord; exact rfl; exact rfl; (focus (repeat (first | apply List.Mem.head | apply List.Mem.tail))); exact rfl; (simp only [List.set_cons_succ, List.set_cons_zero]; exact rfl))
          | (apply wpList_one hR tBool; exact rfl; exact rfl; (focus (repeat (first | apply List.Mem.head | apply List.Mem.tail))); exact rfl; (simp only [List.set_cons_succ, List.set_cons_zero]; exact rfl))
          | (apply wpList_put hR tRegs; exact rfl; exact rfl; exact rfl; (focus (repeat (first | apply List.Mem.head | apply List.Mem.tail))); apply put_regs; exact rfl; simp [encRegs]; apply one_regs; (focus (repeat (first | apply Upd.head | apply Upd.tail))); clear hR; intro w hR)
          | (apply wpList_put hR tVal; exact rfl; exact rfl; exact rfl; (focus (repeat (first | apply List.Mem.head | apply List.Mem.tail))); (first | apply put_val | (apply put_g; omega) | (apply put_s; omega)); exact rfl; (simp [encVal, encRegs] <;> omega); apply one_val; (focus (repeat (first | apply Upd.head | apply Upd.tail))); clear hR; intro w hR)
          | (apply wpList_built; exact rfl; exact rfl; (first | exact bVal0 | exact bVal1 _); (simp only [List.set_cons_succ, List.set_cons_zero]; exact rfl)))
      refine wp_region_rows hR [0, 1, 2, 3, 4, 5, 6, 7] 0 (by kernel_rfl) (by kernel_rfl) (by kernel_rfl) rfl ?_
      clear hR; intro hR
      repeat (refine wpT_step rfl ?_; first
          | (apply wpT1_part tRegs; exact rfl; exact rfl; (focus (repeat (first | apply List.Mem.head | apply List.Mem.tail))); apply ext_regs; exact rfl; (simp only [List.set_cons_succ, List.set_cons_zero]; exact rfl))
          | (apply wpT1_part tVal; exact rfl; exact rfl; (focus (repeat (first | apply List.Mem.head | apply List.Mem.tail))); (first | apply ext_val | (apply ext_g; omega) | (apply ext_s; omega)); exact rfl; (simp only [List.set_cons_succ, List.set_cons_zero]; exact rfl))
          | (apply wpT1_one tWord; exact rfl; exact rfl; (focus (repeat (first | apply List.Mem.head | apply List.Mem.tail))); exact rfl; (simp only [List.set_cons_succ, List.set_cons_zero]; exact rfl))
          | (apply wpT1_one tBool; exact rfl; exact rfl; (focus (repeat (first | apply List.Mem.head | apply List.Mem.tail))); exact rfl; (simp only [List.set_cons_succ, List.set_cons_zero]; exact rfl))
          | (apply wpT1_move; exact rfl; exact rfl; (simp only [List.set_cons_succ, List.set_cons_zero]; exact rfl))
          | (apply wpT1_assign; exact rfl; exact rfl; (simp only [List.set_cons_succ, List.set_cons_zero]; exact rfl))
          | (apply wpT1_pick; exact rfl; exact rfl; exact rfl; (simp only [List.set_cons_succ, List.set_cons_zero]; exact rfl))
          | (apply wpT1_call Try.call17; exact rfl; exact rfl; (intro w hC; exact tame_same (high_any _ _ (by omega) (by omega)) hC); (simp only [List.set_cons_succ, List.set_cons_zero]; exact rfl))
          | (apply wpT1_pure; exact rfl; intro K hK; go_simp; refine hK _ ?_; clear hK K; simp only [List.set_cons_succ, List.set_cons_zero]))
      refine wpG_end hR (by kernel_rfl) ?_
      clear hR; intro w hR
      go_wp2
      go_ret2
      exact ⟨rfl, hR.below⟩
  · have HN := Lib.hid hn
    rw [show byteV r n = 0 from if_neg (by rw [inB_no hn]; exact Bool.false_ne_true), show byteT r n = true from if_neg (by rw [inB_no hn]; exact Bool.false_ne_true)]
    clear hn
    go_enter Try.func11, Try.ntmps11
    go_wp2_with (first
    | (go_at_call 12; refine (isOne_no _ _ _ HN.out h0 h1 (by omega) (by omega)).mono ?_; rintro e w' ⟨rfl, rfl⟩)
    | (apply wpList_box hR; exact rfl; exact rfl; clear hR; intro g w hR; simp only [List.set_cons_succ, List.set_cons_zero])
    | (apply wpList_make hR zRegs; exact rfl; clear hR; intro g w hR; simp only [List.set_cons_succ, List.set_cons_zero])
    | (apply wpList_make hR zVal; exact rfl; clear hR; intro g w hR; simp only [List.set_cons_succ, List.set_cons_zero])
    | (apply wpList_part hR tRegs; exact rfl; exact rfl; (focus (repeat (first | apply List.Mem.head | apply List.Mem.tail))); apply ext_regs; exact rfl; (simp only [List.set_cons_succ, List.set_cons_zero]; exact rfl))
    | (apply wpList_part hR tVal; exact rfl; exact rfl; (focus (repeat (first | apply List.Mem.head | apply List.Mem.tail))); (first | apply ext_val | (apply ext_g; omega) | (apply ext_s; omega)); exact rfl; (simp only [List.set_cons_succ, List.set_cons_zero]; exact rfl))
    | (apply wpList_one hR tWord; exact rfl; exact rfl; (focus (repeat (first | apply List.Mem.head | apply List.Mem.tail))); exact rfl; (simp only [List.set_cons_succ, List.set_cons_zero]; exact rfl))
    | (apply wpList_one hR tBool; exact rfl; exact rfl; (focus (repeat (first | apply List.Mem.head | apply List.Mem.tail))); exact rfl; (simp only [List.set_cons_succ, List.set_cons_zero]; exact rfl))
    | (apply wpList_put hR tRegs; exact rfl; exact rfl; exact rfl; (focus (repeat (first | apply List.Mem.head | apply List.Mem.tail))); apply put_regs; exact rfl; simp [encRegs]; apply one_regs; (focus (repeat (first | apply Upd.head | apply Upd.tail))); clear hR; intro w hR)
    | (apply wpList_put hR tVal; exact rfl; exact rfl; exact rfl; (focus (repeat (first | apply List.Mem.head | apply List.Mem.tail))); (first | apply put_val | (apply put_g; omega) | (apply put_s; omega)); exact rfl; (simp [encVal, encRegs] <;> omega); apply one_val; (focus (repeat (first | apply Upd.head | apply Upd.tail))); clear hR; intro w hR)
    | (apply wpList_built; exact rfl; exact rfl; (first | exact bVal0 | exact bVal1 _); (simp only [List.set_cons_succ, List.set_cons_zero]; exact rfl)))
    go_ret2
    exact ⟨rfl, hR.below⟩

def pbV (r : RegsZ) (n b : Int) : Int := if n < 4 then r.g (n % 4).toNat / 256 * 256 + b else b * 256 + r.g (n % 4).toNat % 256
def RegsZ.pb (r : RegsZ) (n b : Int) : RegsZ := if inB n 8 then r.putG (n % 4).toNat (pbV r n b) false else r

set_option maxHeartbeats 2000000 in
theorem putByte_any (r : RegsZ) (hr : r.ok) (n b : Int) (w : World) (h0 : -9223372036854775808 ≤ n) (h1 : n ≤ 9223372036854775807) (h2 : 0 ≤ b) (h3 : b ≤ 255) :
    Calls Try.prog 10 #[.agg (encRegs r), .int .i64 n, .int .u8 b] w fun e w' => e = .returned (.tuple #[.agg (encRegs (r.pb n b)), .bool (byteT r n)]) ∧ Below w.heap.size w w' := by
  have hR := Own.start w
  have hg := hr.g (n % 4).toNat
  clear hr
  by_cases hn : 0 ≤ n ∧ n < 8
  · obtain ⟨ha, hb⟩ := hn
    rw [show r.pb n b = r.putG (n % 4).toNat (pbV r n b) false from if_pos (inB_yes ha hb), show byteT r n = !r.h (n % 4).toNat from if_pos (inB_yes ha hb), show pbV r n b = (if n < 4 then r.g (n % 4).toNat / 256 * 256 + b else b * 256 + r.g (n % 4).toNat % 256) from rfl]
    by_cases hc : n < 4
    · rw [if_pos hc]
      go_enter Try.func10, Try.ntmps10
      go_wp2_with (first
          | (go_at_call 12; refine (isOne_yes _ _ _ (by omega) (by omega) (by omega)).mono ?_; rintro e w' ⟨rfl, rfl⟩)
          | (apply wpList_box hR; exact rfl; exact rfl; clear hR; intro g w hR; simp only [List.set_cons_succ, List.set_cons_zero])
          | (apply wpList_make hR zRegs; exact rfl; clear hR; intro g w hR; simp only [List.set_cons_succ, List.set_cons_zero])
          | (apply wpList_make hR zVal; exact rfl; clear hR; intro g w hR; simp only [List.set_cons_succ, List.set_cons_zero])
          | (apply wpList_part hR tRegs; exact rfl; exact rfl; (focus (repeat (first | apply List.Mem.head | apply List.Mem.tail))); apply ext_regs; exact rfl; (simp only [List.set_cons_succ, List.set_cons_zero]; exact rfl))
          | (apply wpList_part hR tVal; exact rfl; exact rfl; (focus (repeat (first | apply List.Mem.head | apply List.Mem.tail))); (first | apply ext_val | (apply ext_g; omega) | (apply ext_s; omega)); exact rfl; (simp only [List.set_cons_succ, List.set_cons_zero]; exact rfl))
          | (apply wpList_one hR tWord; exact rfl; exact rfl; (focus (repeat (first | apply List.Mem.head | apply List.Mem.tail))); exact rfl; (simp only [List.set_cons_succ, List.set_cons_zero]; exact rfl))
          | (apply wpList_one hR tBool; exact rfl; exact rfl; (focus (repeat (first | apply List.Mem.head | apply List.Mem.tail))); exact rfl; (simp only [List.set_cons_succ, List.set_cons_zero]; exact rfl))
          | (apply wpList_put hR tRegs; exact rfl; exact rfl; exact rfl; (focus (repeat (first | apply List.Mem.head | apply List.Mem.tail))); apply put_regs; exact rfl; simp [encRegs]; apply one_regs; (focus (repeat (first | apply Upd.head | apply Upd.tail))); clear hR; intro w hR)
          | (apply wpList_put hR tVal; exact rfl; exact rfl; exact rfl; (focus (repeat (first | apply List.Mem.head | apply List.Mem.tail))); (first | apply put_val | (apply put_g; omega) | (apply put_s; omega)); exact rfl; (simp [encVal, encRegs] <;> omega); apply one_val; (focus (repeat (first | apply Upd.head | apply Upd.tail))); clear hR; intro w hR)
          | (apply wpList_built; exact rfl; exact rfl; (first | exact bVal0 | exact bVal1 _); (simp only [List.set_cons_succ, List.set_cons_zero]; exact rfl)))
      refine wp_region_rows hR [0, 1, 2, 3, 4, 5, 6, 7] 0 (by kernel_rfl) (by kernel_rfl) (by kernel_rfl) rfl ?_
      clear hR; intro hR
      repeat (refine wpT_step rfl ?_; first
          | (apply wpT1_part tRegs; exact rfl; exact rfl; (focus (repeat (first | apply List.Mem.head | apply List.Mem.tail))); apply ext_regs; exact rfl; (simp only [List.set_cons_succ, List.set_cons_zero]; exact rfl))
          | (apply wpT1_part tVal; exact rfl; exact rfl; (focus (repeat (first | apply List.Mem.head | apply List.Mem.tail))); (first | apply ext_val | (apply ext_g; omega) | (apply ext_s; omega)); exact rfl; (simp only [List.set_cons_succ, List.set_cons_zero]; exact rfl))
          | (apply wpT1_one tWord; exact rfl; exact rfl; (focus (repeat (first | apply List.Mem.head | apply List.Mem.tail))); exact rfl; (simp only [List.set_cons_succ, List.set_cons_zero]; exact rfl))
          | (apply wpT1_one tBool; exact rfl; exact rfl; (focus (repeat (first | apply List.Mem.head | apply List.Mem.tail))); exact rfl; (simp only [List.set_cons_succ, List.set_cons_zero]; exact rfl))
          | (apply wpT1_move; exact rfl; exact rfl; (simp only [List.set_cons_succ, List.set_cons_zero]; exact rfl))
          | (apply wpT1_assign; exact rfl; exact rfl; (simp only [List.set_cons_succ, List.set_cons_zero]; exact rfl))
          | (apply wpT1_pick; exact rfl; exact rfl; exact rfl; (simp only [List.set_cons_succ, List.set_cons_zero]; exact rfl))
          | (apply wpT1_call Try.call16; exact rfl; exact rfl; (intro w hC; exact tame_same (low_any _ _ (by omega) (by omega)) hC); (simp only [List.set_cons_succ, List.set_cons_zero]; exact rfl))
          | (apply wpT1_call Try.call17; exact rfl; exact rfl; (intro w hC; exact tame_same (high_any _ _ (by omega) (by omega)) hC); (simp only [List.set_cons_succ, List.set_cons_zero]; exact rfl))
          | (apply wpT1_pure; exact rfl; intro K hK; go_simp; refine hK _ ?_; clear hK K; simp only [List.set_cons_succ, List.set_cons_zero]))
      refine wpG_end hR (by kernel_rfl) ?_
      clear hR; intro w hR
      go_wp2_with (first
          | (go_at_call 18; refine (word_any _ _ _ (by omega) (by omega) (by omega) (by omega)).mono ?_; rintro e w' ⟨rfl, rfl⟩)
          | (apply wpList_box hR; exact rfl; exact rfl; clear hR; intro g w hR; simp only [List.set_cons_succ, List.set_cons_zero])
          | (apply wpList_make hR zRegs; exact rfl; clear hR; intro g w hR; simp only [List.set_cons_succ, List.set_cons_zero])
          | (apply wpList_make hR zVal; exact rfl; clear hR; intro g w hR; simp only [List.set_cons_succ, List.set_cons_zero])
          | (apply wpList_part hR tRegs; exact rfl; exact rfl; (focus (repeat (first | apply List.Mem.head | apply List.Mem.tail))); apply ext_regs; exact rfl; (simp only [List.set_cons_succ, List.set_cons_zero]; exact rfl))
          | (apply wpList_part hR tVal; exact rfl; exact rfl; (focus (repeat (first | apply List.Mem.head | apply List.Mem.tail))); (first | apply ext_val | (apply ext_g; omega) | (apply ext_s; omega)); exact rfl; (simp only [List.set_cons_succ, List.set_cons_zero]; exact rfl))
          | (apply wpList_one hR tWord; exact rfl; exact rfl; (focus (repeat (first | apply List.Mem.head | apply List.Mem.tail))); exact rfl; (simp only [List.set_cons_succ, List.set_cons_zero]; exact rfl))
          | (apply wpList_one hR tBool; exact rfl; exact rfl; (focus (repeat (first | apply List.Mem.head | apply List.Mem.tail))); exact rfl; (simp only [List.set_cons_succ, List.set_cons_zero]; exact rfl))
          | (apply wpList_put hR tRegs; exact rfl; exact rfl; exact rfl; (focus (repeat (first | apply List.Mem.head | apply List.Mem.tail))); apply put_regs; exact rfl; simp [encRegs]; apply one_regs; (focus (repeat (first | apply Upd.head | apply Upd.tail))); clear hR; intro w hR)
          | (apply wpList_put hR tVal; exact rfl; exact rfl; exact rfl; (focus (repeat (first | apply List.Mem.head | apply List.Mem.tail))); (first | apply put_val | (apply put_g; omega) | (apply put_s; omega)); exact rfl; (simp [encVal, encRegs] <;> omega); apply one_val; (focus (repeat (first | apply Upd.head | apply Upd.tail))); clear hR; intro w hR)
          | (apply wpList_built; exact rfl; exact rfl; (first | exact bVal0 | exact bVal1 _); (simp only [List.set_cons_succ, List.set_cons_zero]; exact rfl)))
      refine wp_region_some hR [_, _] (.cons_cons _ (.cons _ (.cons_cons _ .slnil))) [0, 1, 2, 3] 2 (by kernel_rfl) (by kernel_rfl) (by kernel_rfl) rfl ?_
      clear hR; intro hR
      repeat (refine wpT_step rfl ?_; first
          | (apply wpT1_part tRegs; exact rfl; exact rfl; (focus (repeat (first | apply List.Mem.head | apply List.Mem.tail))); apply ext_regs; exact rfl; (simp only [List.set_cons_succ, List.set_cons_zero]; exact rfl))
          | (apply wpT1_part tVal; exact rfl; exact rfl; (focus (repeat (first | apply List.Mem.head | apply List.Mem.tail))); (first | apply ext_val | (apply ext_g; omega) | (apply ext_s; omega)); exact rfl; (simp only [List.set_cons_succ, List.set_cons_zero]; exact rfl))
          | (apply wpT1_one tWord; exact rfl; exact rfl; (focus (repeat (first | apply List.Mem.head | apply List.Mem.tail))); exact rfl; (simp only [List.set_cons_succ, List.set_cons_zero]; exact rfl))
          | (apply wpT1_one tBool; exact rfl; exact rfl; (focus (repeat (first | apply List.Mem.head | apply List.Mem.tail))); exact rfl; (simp only [List.set_cons_succ, List.set_cons_zero]; exact rfl))
          | (apply wpT1_move; exact rfl; exact rfl; (simp only [List.set_cons_succ, List.set_cons_zero]; exact rfl))
          | (apply wpT1_assign; exact rfl; exact rfl; (simp only [List.set_cons_succ, List.set_cons_zero]; exact rfl))
          | (apply wpT1_pick; exact rfl; exact rfl; exact rfl; (simp only [List.set_cons_succ, List.set_cons_zero]; exact rfl))
          | (apply wpT1_pure; exact rfl; intro K hK; go_simp; refine hK _ ?_; clear hK K; simp only [List.set_cons_succ, List.set_cons_zero]))
      apply wpG_put hR tRegs (i := 4) (by kernel_rfl) rfl
      · exact rfl
      · exact rfl
      · (focus (repeat (first | apply List.Mem.head | apply List.Mem.tail)))
      · apply put_regs
      · exact rfl
      · simp [encRegs]
      · apply one_regs
      · (focus (repeat (first | apply Upd.head | apply Upd.tail)))
      · (focus (repeat (first | exact List.Sublist.slnil | apply List.Sublist.cons_cons | apply List.Sublist.cons)))
      clear hR; intro w hR
      refine wpG_slot hR (i := 5) (by kernel_rfl) rfl rfl (by simp only [List.set_cons_succ, List.set_cons_zero]; exact rfl) ?_
      clear hR; intro w hR
      refine wpG_end hR (by kernel_rfl) ?_
      clear hR; intro w hR
      go_wp2
      (try simp only [Exit.inBlock, Exit.then])
      exact post_row_tmp hR rfl (by rfl) (by rfl) (.tail _ (.head _)) Try.underlying28 rfl iRegs (by rfl) (by rfl) ⟨rfl, hR.below⟩
    · rw [if_neg hc]
      go_enter Try.func10, Try.ntmps10
      go_wp2_with (first
          | (go_at_call 12; refine (isOne_yes _ _ _ (by omega) (by omega) (by omega)).mono ?_; rintro e w' ⟨rfl, rfl⟩)
          | (apply wpList_box hR; exact rfl; exact rfl; clear hR; intro g w hR; simp only [List.set_cons_succ, List.set_cons_zero])
          | (apply wpList_make hR zRegs; exact rfl; clear hR; intro g w hR; simp only [List.set_cons_succ, List.set_cons_zero])
          | (apply wpList_make hR zVal; exact rfl; clear hR; intro g w hR; simp only [List.set_cons_succ, List.set_cons_zero])
          | (apply wpList_part hR tRegs; exact rfl; exact rfl; (focus (repeat (first | apply List.Mem.head | apply List.Mem.tail))); apply ext_regs; exact rfl; (simp only [List.set_cons_succ, List.set_cons_zero]; exact rfl))
          | (apply wpList_part hR tVal; exact rfl; exact rfl; (focus (repeat (first | apply List.Mem.head | apply List.Mem.tail))); (first | apply ext_val | (apply ext_g; omega) | (apply ext_s; omega)); exact rfl; (simp only [List.set_cons_succ, List.set_cons_zero]; exact rfl))
          | (apply wpList_one hR tWord; exact rfl; exact rfl; (focus (repeat (first | apply List.Mem.head | apply List.Mem.tail))); exact rfl; (simp only [List.set_cons_succ, List.set_cons_zero]; exact rfl))
          | (apply wpList_one hR tBool; exact rfl; exact rfl; (focus (repeat (first | apply List.Mem.head | apply List.Mem.tail))); exact rfl; (simp only [List.set_cons_succ, List.set_cons_zero]; exact rfl))
          | (apply wpList_put hR tRegs; exact rfl; exact rfl; exact rfl; (focus (repeat (first | apply List.Mem.head | apply List.Mem.tail))); apply put_regs; exact rfl; simp [encRegs]; apply one_regs; (focus (repeat (first | apply Upd.head | apply Upd.tail))); clear hR; intro w hR)
          | (apply wpList_put hR tVal; exact rfl; exact rfl; exact rfl; (focus (repeat (first | apply List.Mem.head | apply List.Mem.tail))); (first | apply put_val | (apply put_g; omega) | (apply put_s; omega)); exact rfl; (simp [encVal, encRegs] <;> omega); apply one_val; (focus (repeat (first | apply Upd.head | apply Upd.tail))); clear hR; intro w hR)
          | (apply wpList_built; exact rfl; exact rfl; (first | exact bVal0 | exact bVal1 _); (simp only [List.set_cons_succ, List.set_cons_zero]; exact rfl)))
      refine wp_region_rows hR [0, 1, 2, 3, 4, 5, 6, 7] 0 (by kernel_rfl) (by kernel_rfl) (by kernel_rfl) rfl ?_
      clear hR; intro hR
      repeat (refine wpT_step rfl ?_; first
          | (apply wpT1_part tRegs; exact rfl; exact rfl; (focus (repeat (first | apply List.Mem.head | apply List.Mem.tail))); apply ext_regs; exact rfl; (simp only [List.set_cons_succ, List.set_cons_zero]; exact rfl))
          | (apply wpT1_part tVal; exact rfl; exact rfl; (focus (repeat (first | apply List.Mem.head | apply List.Mem.tail))); (first | apply ext_val | (apply ext_g; omega) | (apply ext_s; omega)); exact rfl; (simp only [List.set_cons_succ, List.set_cons_zero]; exact rfl))
          | (apply wpT1_one tWord; exact rfl; exact rfl; (focus (repeat (first | apply List.Mem.head | apply List.Mem.tail))); exact rfl; (simp only [List.set_cons_succ, List.set_cons_zero]; exact rfl))
          | (apply wpT1_one tBool; exact rfl; exact rfl; (focus (repeat (first | apply List.Mem.head | apply List.Mem.tail))); exact rfl; (simp only [List.set_cons_succ, List.set_cons_zero]; exact rfl))
          | (apply wpT1_move; exact rfl; exact rfl; (simp only [List.set_cons_succ, List.set_cons_zero]; exact rfl))
          | (apply wpT1_assign; exact rfl; exact rfl; (simp only [List.set_cons_succ, List.set_cons_zero]; exact rfl))
          | (apply wpT1_pick; exact rfl; exact rfl; exact rfl; (simp only [List.set_cons_succ, List.set_cons_zero]; exact rfl))
          | (apply wpT1_call Try.call16; exact rfl; exact rfl; (intro w hC; exact tame_same (low_any _ _ (by omega) (by omega)) hC); (simp only [List.set_cons_succ, List.set_cons_zero]; exact rfl))
          | (apply wpT1_call Try.call17; exact rfl; exact rfl; (intro w hC; exact tame_same (high_any _ _ (by omega) (by omega)) hC); (simp only [List.set_cons_succ, List.set_cons_zero]; exact rfl))
          | (apply wpT1_pure; exact rfl; intro K hK; go_simp; refine hK _ ?_; clear hK K; simp only [List.set_cons_succ, List.set_cons_zero]))
      refine wpG_end hR (by kernel_rfl) ?_
      clear hR; intro w hR
      go_wp2_with (first
          | (go_at_call 18; refine (word_any _ _ _ (by omega) (by omega) (by omega) (by omega)).mono ?_; rintro e w' ⟨rfl, rfl⟩)
          | (apply wpList_box hR; exact rfl; exact rfl; clear hR; intro g w hR; simp only [List.set_cons_succ, List.set_cons_zero])
          | (apply wpList_make hR zRegs; exact rfl; clear hR; intro g w hR; simp only [List.set_cons_succ, List.set_cons_zero])
          | (apply wpList_make hR zVal; exact rfl; clear hR; intro g w hR; simp only [List.set_cons_succ, List.set_cons_zero])
          | (apply wpList_part hR tRegs; exact rfl; exact rfl; (focus (repeat (first | apply List.Mem.head | apply List.Mem.tail))); apply ext_regs; exact rfl; (simp only [List.set_cons_succ, List.set_cons_zero]; exact rfl))
          | (apply wpList_part hR tVal; exact rfl; exact rfl; (focus (repeat (first | apply List.Mem.head | apply List.Mem.tail))); (first | apply ext_val | (apply ext_g; omega) | (apply ext_s; omega)); exact rfl; (simp only [List.set_cons_succ, List.set_cons_zero]; exact rfl))
          | (apply wpList_one hR tWord; exact rfl; exact rfl; (focus (repeat (first | apply List.Mem.head | apply List.Mem.tail))); exact rfl; (simp only [List.set_cons_succ, List.set_cons_zero]; exact rfl))
          | (apply wpList_one hR tBool; exact rfl; exact rfl; (focus (repeat (first | apply List.Mem.head | apply List.Mem.tail))); exact rfl; (simp only [List.set_cons_succ, List.set_cons_zero]; exact rfl))
          | (apply wpList_put hR tRegs; exact rfl; exact rfl; exact rfl; (focus (repeat (first | apply List.Mem.head | apply List.Mem.tail))); apply put_regs; exact rfl; simp [encRegs]; apply one_regs; (focus (repeat (first | apply Upd.head | apply Upd.tail))); clear hR; intro w hR)
          | (apply wpList_put hR tVal; exact rfl; exact rfl; exact rfl; (focus (repeat (first | apply List.Mem.head | apply List.Mem.tail))); (first | apply put_val | (apply put_g; omega) | (apply put_s; omega)); exact rfl; (simp [encVal, encRegs] <;> omega); apply one_val; (focus (repeat (first | apply Upd.head | apply Upd.tail))); clear hR; intro w hR)
          | (apply wpList_built; exact rfl; exact rfl; (first | exact bVal0 | exact bVal1 _); (simp only [List.set_cons_succ, List.set_cons_zero]; exact rfl)))
      refine wp_region_some hR [_, _] (.cons_cons _ (.cons _ (.cons_cons _ .slnil))) [0, 1, 2, 3] 2 (by kernel_rfl) (by kernel_rfl) (by kernel_rfl) rfl ?_
      clear hR; intro hR
      repeat (refine wpT_step rfl ?_; first
          | (apply wpT1_part tRegs; exact rfl; exact rfl; (focus (repeat (first | apply List.Mem.head | apply List.Mem.tail))); apply ext_regs; exact rfl; (simp only [List.set_cons_succ, List.set_cons_zero]; exact rfl))
          | (apply wpT1_part tVal; exact rfl; exact rfl; (focus (repeat (first | apply List.Mem.head | apply List.Mem.tail))); (first | apply ext_val | (apply ext_g; omega) | (apply ext_s; omega)); exact rfl; (simp only [List.set_cons_succ, List.set_cons_zero]; exact rfl))
          | (apply wpT1_one tWord; exact rfl; exact rfl; (focus (repeat (first | apply List.Mem.head | apply List.Mem.tail))); exact rfl; (simp only [List.set_cons_succ, List.set_cons_zero]; exact rfl))
          | (apply wpT1_one tBool; exact rfl; exact rfl; (focus (repeat (first | apply List.Mem.head | apply List.Mem.tail))); exact rfl; (simp only [List.set_cons_succ, List.set_cons_zero]; exact rfl))
          | (apply wpT1_move; exact rfl; exact rfl; (simp only [List.set_cons_succ, List.set_cons_zero]; exact rfl))
          | (apply wpT1_assign; exact rfl; exact rfl; (simp only [List.set_cons_succ, List.set_cons_zero]; exact rfl))
          | (apply wpT1_pick; exact rfl; exact rfl; exact rfl; (simp only [List.set_cons_succ, List.set_cons_zero]; exact rfl))
          | (apply wpT1_pure; exact rfl; intro K hK; go_simp; refine hK _ ?_; clear hK K; simp only [List.set_cons_succ, List.set_cons_zero]))
      apply wpG_put hR tRegs (i := 4) (by kernel_rfl) rfl
      · exact rfl
      · exact rfl
      · (focus (repeat (first | apply List.Mem.head | apply List.Mem.tail)))
      · apply put_regs
      · exact rfl
      · simp [encRegs]
      · apply one_regs
      · (focus (repeat (first | apply Upd.head | apply Upd.tail)))
      · (focus (repeat (first | exact List.Sublist.slnil | apply List.Sublist.cons_cons | apply List.Sublist.cons)))
      clear hR; intro w hR
      refine wpG_slot hR (i := 5) (by kernel_rfl) rfl rfl (by simp only [List.set_cons_succ, List.set_cons_zero]; exact rfl) ?_
      clear hR; intro w hR
      refine wpG_end hR (by kernel_rfl) ?_
      clear hR; intro w hR
      go_wp2
      (try simp only [Exit.inBlock, Exit.then])
      exact post_row_tmp hR rfl (by rfl) (by rfl) (.tail _ (.head _)) Try.underlying28 rfl iRegs (by rfl) (by rfl) ⟨rfl, hR.below⟩
  · have HN := Lib.hid hn
    rw [show r.pb n b = r from if_neg (by rw [inB_no hn]; exact Bool.false_ne_true), show byteT r n = true from if_neg (by rw [inB_no hn]; exact Bool.false_ne_true)]
    clear hn
    go_enter Try.func10, Try.ntmps10
    go_wp2_with (first
    | (go_at_call 12; refine (isOne_no _ _ _ HN.out h0 h1 (by omega) (by omega)).mono ?_; rintro e w' ⟨rfl, rfl⟩)
    | (apply wpList_box hR; exact rfl; exact rfl; clear hR; intro g w hR; simp only [List.set_cons_succ, List.set_cons_zero])
    | (apply wpList_make hR zRegs; exact rfl; clear hR; intro g w hR; simp only [List.set_cons_succ, List.set_cons_zero])
    | (apply wpList_make hR zVal; exact rfl; clear hR; intro g w hR; simp only [List.set_cons_succ, List.set_cons_zero])
    | (apply wpList_part hR tRegs; exact rfl; exact rfl; (focus (repeat (first | apply List.Mem.head | apply List.Mem.tail))); apply ext_regs; exact rfl; (simp only [List.set_cons_succ, List.set_cons_zero]; exact rfl))
    | (apply wpList_part hR tVal; exact rfl; exact rfl; (focus (repeat (first | apply List.Mem.head | apply List.Mem.tail))); (first | apply ext_val | (apply ext_g; omega) | (apply ext_s; omega)); exact rfl; (simp only [List.set_cons_succ, List.set_cons_zero]; exact rfl))
    | (apply wpList_one hR tWord; exact rfl; exact rfl; (focus (repeat (first | apply List.Mem.head | apply List.Mem.tail))); exact rfl; (simp only [List.set_cons_succ, List.set_cons_zero]; exact rfl))
    | (apply wpList_one hR tBool; exact rfl; exact rfl; (focus (repeat (first | apply List.Mem.head | apply List.Mem.tail))); exact rfl; (simp only [List.set_cons_succ, List.set_cons_zero]; exact rfl))
    | (apply wpList_put hR tRegs; exact rfl; exact rfl; exact rfl; (focus (repeat (first | apply List.Mem.head | apply List.Mem.tail))); apply put_regs; exact rfl; simp [encRegs]; apply one_regs; (focus (repeat (first | apply Upd.head | apply Upd.tail))); clear hR; intro w hR)
    | (apply wpList_put hR tVal; exact rfl; exact rfl; exact rfl; (focus (repeat (first | apply List.Mem.head | apply List.Mem.tail))); (first | apply put_val | (apply put_g; omega) | (apply put_s; omega)); exact rfl; (simp [encVal, encRegs] <;> omega); apply one_val; (focus (repeat (first | apply Upd.head | apply Upd.tail))); clear hR; intro w hR)
    | (apply wpList_built; exact rfl; exact rfl; (first | exact bVal0 | exact bVal1 _); (simp only [List.set_cons_succ, List.set_cons_zero]; exact rfl)))
    (try simp only [Exit.inBlock, Exit.then])
    exact post_row_tmp hR rfl (by rfl) (by rfl) (.head _) Try.underlying28 rfl iRegs (by rfl) (by rfl) ⟨rfl, hR.below⟩
end Go.Proofs.Ytomdjaeefngcfaa
