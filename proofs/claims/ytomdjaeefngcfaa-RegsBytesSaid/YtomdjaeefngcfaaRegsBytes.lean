/- Whatever the registers, the number and the byte, hansomlaw03.RegsBytes returns true: registers' bytes are read and written, the other one stays, a paragraph's register has none, and each argument reads afterwards as before. There is no condition on the arguments. -/
import Derived.Test.YtomdjaeefngcfaaRows
import Derived.Test.YtomdjaeefngcfaaRegsC
import Derived.WalkKit
import Derived.ProofKit
import Derived.OpenShut
import Derived.ShutString
import Derived.ChangeOld
import Derived.Below
namespace Go.Proofs.Ytomdjaeefngcfaa.regsBytes
open Go.ChangeShapes Go.WideShapes Go.ChangeAt Go.RowKit
open Go.ChangeMaps (open_string shut_string)
set_option linter.unusedVariables false

theorem own : ownKnob Try.prog.godebug = none := by kernel_rfl
theorem laidOut : laidOutB Try.prog = true := by kernel_rfl



theorem and3 (n : Int) (h0 : 0 ≤ n) (h1 : n < 8) : bits .and .i64 n 3 = n % 4 := by
  rcases (show n = 0 ∨ n = 1 ∨ n = 2 ∨ n = 3 ∨ n = 4 ∨ n = 5 ∨ n = 6 ∨ n = 7 by omega) with rfl | rfl | rfl | rfl | rfl | rfl | rfl | rfl <;> decide +kernel
theorem pb_yes (r : RegsZ) (hr : r.ok) (n b : Int) (w : World) (ha : 0 ≤ n) (hb : n < 8) (h2 : 0 ≤ b) (h3 : b ≤ 255) :
    Calls Try.prog 10 #[.agg (encRegs r), .int .i64 n, .int .u8 b] w fun e w' => e = .returned (.tuple #[.agg (encRegs (r.putG (n % 4).toNat (pbV r n b) false)), .bool (!r.h (n % 4).toNat)]) ∧ Below w.heap.size w w' := by
  have h := putByte_any r hr n b w (by omega) (by omega) h2 h3
  rw [show r.pb n b = r.putG (n % 4).toNat (pbV r n b) false from if_pos (inB_yes ha hb), show byteT r n = !r.h (n % 4).toNat from if_pos (inB_yes ha hb)] at h
  exact h
theorem byte_yes (r : RegsZ) (hr : r.ok) (n : Int) (w : World) (ha : 0 ≤ n) (hb : n < 8) :
    Calls Try.prog 11 #[.agg (encRegs r), .int .i64 n] w fun e w' => e = .returned (.tuple #[.int .u8 (byteV r n), .bool (!r.h (n % 4).toNat)]) ∧ Below w.heap.size w w' := by
  have h := byte_any r hr n w (by omega) (by omega)
  rw [show byteT r n = !r.h (n % 4).toNat from if_pos (inB_yes ha hb)] at h
  exact h
theorem pbV_bd (r : RegsZ) (hr : r.ok) (n b : Int) (h2 : 0 ≤ b) (h3 : b ≤ 255) : 0 ≤ pbV r n b ∧ pbV r n b ≤ 65535 := by
  have := hr.g (n % 4).toNat
  unfold pbV
  split <;> omega
theorem putG_ok (r : RegsZ) (hr : r.ok) (k : Nat) (v : Int) (t : Bool) (h : 0 ≤ v ∧ v ≤ 65535) : (r.putG k v t).ok := by
  refine ⟨fun j => ?_, hr.s, hr.ip, hr.fl⟩
  show 0 ≤ (if j = k then v else r.g j) ∧ (if j = k then v else r.g j) ≤ 65535
  split
  · exact h
  · exact hr.g j

theorem byteV_lo (r : RegsZ) (n : Int) (ha : 0 ≤ n) (hb : n < 8) (hn : n < 4) : byteV r n = r.g (n % 4).toNat % 256 := by
  unfold byteV
  rw [if_pos (inB_yes ha hb), if_pos hn]
theorem byteV_hi (r : RegsZ) (n : Int) (ha : 0 ≤ n) (hb : n < 8) (hn : 4 ≤ n) : byteV r n = r.g (n % 4).toNat / 256 := by
  unfold byteV
  rw [if_pos (inB_yes ha hb), if_neg (by omega)]
theorem pbV_lo (r : RegsZ) (n b : Int) (hn : n < 4) : pbV r n b = r.g (n % 4).toNat / 256 * 256 + b := if_pos hn
theorem pbV_hi (r : RegsZ) (n b : Int) (hn : 4 ≤ n) : pbV r n b = b * 256 + r.g (n % 4).toNat % 256 := if_neg (by omega)
theorem putG_g (r : RegsZ) (k : Nat) (v : Int) (t : Bool) : (r.putG k v t).g k = v := if_pos rfl
theorem putG_h (r : RegsZ) (k : Nat) (v : Int) (t : Bool) : (r.putG k v t).h k = t := if_pos rfl
theorem byte_after (r : RegsZ) (hr : r.ok) (n b : Int) (w : World) (ha : 0 ≤ n) (hb : n < 8) (h2 : 0 ≤ b) (h3 : b ≤ 255) :
    Calls Try.prog 11 #[.agg (encRegs (r.putG (n % 4).toNat (pbV r n b) false)), .int .i64 n] w fun e w' => e = .returned (.tuple #[.int .u8 b, .bool true]) ∧ Below w.heap.size w w' := by
  have hx := hr.g (n % 4).toNat
  have h := byte_yes _ (putG_ok r hr (n % 4).toNat _ false (pbV_bd r hr n b h2 h3)) n w ha hb
  have e : byteV (r.putG (n % 4).toNat (pbV r n b) false) n = b := by
    by_cases hn : n < 4
    · rw [byteV_lo _ _ ha hb hn, putG_g, pbV_lo r n b hn]; omega
    · rw [byteV_hi _ _ ha hb (by omega), putG_g, pbV_hi r n b (by omega)]; omega
  rw [e, putG_h] at h
  exact h
theorem want_lo (x b : Int) (hx : 0 ≤ x ∧ x ≤ 65535) (h2 : 0 ≤ b) (h3 : b ≤ 255) : IntKind.u16.wrap (IntKind.u16.wrap (IntKind.u16.wrap (x.tdiv 256) * 256) + IntKind.u16.wrap b) = x / 256 * 256 + b := by
  rw [Int.tdiv_eq_ediv_of_nonneg hx.1]
  simp only [IntKind.wrap_u16]
  omega
theorem old_lo (x : Int) (hx : 0 ≤ x ∧ x ≤ 65535) : IntKind.u8.wrap (x.tmod 256) = x % 256 := by
  rw [Int.tmod_eq_emod_of_nonneg hx.1]
  simp only [IntKind.wrap_u8]
  omega

theorem want_hi (x b : Int) (hx : 0 ≤ x ∧ x ≤ 65535) (h2 : 0 ≤ b) (h3 : b ≤ 255) : IntKind.u16.wrap (x.tmod 256 + IntKind.u16.wrap (256 * IntKind.u16.wrap b)) = b * 256 + x % 256 := by
  rw [Int.tmod_eq_emod_of_nonneg hx.1]
  simp only [IntKind.wrap_u16]
  omega
theorem old_hi (x : Int) (hx : 0 ≤ x ∧ x ≤ 65535) : IntKind.u8.wrap (IntKind.u16.wrap (x.tdiv 256)) = x / 256 := by
  rw [Int.tdiv_eq_ediv_of_nonneg hx.1]
  simp only [IntKind.wrap_u16, IntKind.wrap_u8]
  omega
theorem pb_no (r : RegsZ) (hr : r.ok) (n b : Int) (w : World) (hn : ¬ (0 ≤ n ∧ n < 8)) (h0 : -9223372036854775808 ≤ n) (h1 : n ≤ 9223372036854775807) (h2 : 0 ≤ b) (h3 : b ≤ 255) :
    Calls Try.prog 10 #[.agg (encRegs r), .int .i64 n, .int .u8 b] w fun e w' => e = .returned (.tuple #[.agg (encRegs r), .bool true]) ∧ Below w.heap.size w w' := by
  have h := putByte_any r hr n b w h0 h1 h2 h3
  rw [show r.pb n b = r from if_neg (by rw [inB_no hn]; exact Bool.false_ne_true), show byteT r n = true from if_neg (by rw [inB_no hn]; exact Bool.false_ne_true)] at h
  exact h
theorem byte_no (r : RegsZ) (hr : r.ok) (n : Int) (w : World) (hn : ¬ (0 ≤ n ∧ n < 8)) (h0 : -9223372036854775808 ≤ n) (h1 : n ≤ 9223372036854775807) :
    Calls Try.prog 11 #[.agg (encRegs r), .int .i64 n] w fun e w' => e = .returned (.tuple #[.int .u8 0, .bool true]) ∧ Below w.heap.size w w' := by
  have h := byte_any r hr n w h0 h1
  rw [show byteV r n = 0 from if_neg (by rw [inB_no hn]; exact Bool.false_ne_true), show byteT r n = true from if_neg (by rw [inB_no hn]; exact Bool.false_ne_true)] at h
  exact h
set_option maxHeartbeats 4000000 in
theorem partC (r : RegsZ) (hr : r.ok) (n b : Int) (h0 : -9223372036854775808 ≤ n) (h1 : n ≤ 9223372036854775807) (h2 : 0 ≤ b) (h3 : b ≤ 255) (w : World) (hn : n < 0 ∨ 8 ≤ n) :
    Calls Try.prog 4 #[.agg (encRegs r), .int .i64 n, .int .u8 b] w fun e w' => e = .returned (.bool true) ∧ Below w.heap.size w w' := by
  have hR := Own.start w
  rcases hn with hn | hn
  all_goals
    go_enter Try.func4, Try.ntmps4
    go_wp2_with (first
    | (go_at_call 10; refine (pb_no r hr n b _ (by omega) h0 h1 h2 h3).mono ?_; rintro e w' ⟨rfl, hb⟩; replace hR := hR.grow hb; clear hb)
    | (go_at_call 11; refine (byte_no r hr n _ (by omega) h0 h1).mono ?_; rintro e w' ⟨rfl, hb⟩; replace hR := hR.grow hb; clear hb)
    | (go_at_call 7; refine (awake03_any _).mono ?_; rintro e w' ⟨rfl, hb⟩; replace hR := hR.grow hb; clear hb)
    | (apply wpList_same Try.eqGuardType28; exact rfl; exact rfl; exact rfl; exact fit_regs _; (simp only [List.set_cons_succ, List.set_cons_zero]; exact rfl))
    | (apply wpList_box hR; exact rfl; exact rfl; clear hR; intro g w hR; simp only [List.set_cons_succ, List.set_cons_zero])
    | (apply wpList_make hR zRegs; exact rfl; clear hR; intro g w hR; simp only [List.set_cons_succ, List.set_cons_zero])
    | (apply wpList_make hR zVal; exact rfl; clear hR; intro g w hR; simp only [List.set_cons_succ, List.set_cons_zero])
    | (apply wpList_part hR tRegs; exact rfl; exact rfl; (focus (repeat (first | apply List.Mem.head | apply List.Mem.tail))); apply ext_regs; exact rfl; (simp only [List.set_cons_succ, List.set_cons_zero]; exact rfl))
    | (apply wpList_part hR tVal; exact rfl; exact rfl; (focus (repeat (first | apply List.Mem.head | apply List.Mem.tail))); (first | apply ext_val | (apply ext_g; omega) | (apply ext_s; omega)); exact rfl; (simp only [List.set_cons_succ, List.set_cons_zero]; exact rfl))
    | (apply wpList_one hR tWord; exact rfl; exact rfl; (focus (repeat (first | apply List.Mem.head | apply List.Mem.tail))); exact rfl; (simp only [List.set_cons_succ, List.set_cons_zero]; exact rfl))
    | (apply wpList_one hR tBool; exact rfl; exact rfl; (focus (repeat (first | apply List.Mem.head | apply List.Mem.tail))); exact rfl; (simp only [List.set_cons_succ, List.set_cons_zero]; exact rfl))
    | (apply wpList_put hR tRegs; exact rfl; exact rfl; exact rfl; (focus (repeat (first | apply List.Mem.head | apply List.Mem.tail))); apply put_regs; exact rfl; simp [encRegs]; apply one_regs; (focus (repeat (first | apply Upd.head | apply Upd.tail))); clear hR; intro w hR)
    | (apply wpList_put hR tVal; exact rfl; exact rfl; exact rfl; (focus (repeat (first | apply List.Mem.head | apply List.Mem.tail))); (first | apply put_val | (apply put_g; omega) | (apply put_s; omega)); exact rfl; (simp [encVal, encRegs] <;> omega); apply one_val; (focus (repeat (first | apply Upd.head | apply Upd.tail))); clear hR; intro w hR)
    | (apply wpList_built; exact rfl; exact rfl; (first | exact bVal0 | exact bVal1 _); (simp only [List.set_cons_succ, List.set_cons_zero]; exact rfl)))
    go_ret
    exact ⟨rfl, hR.below⟩

set_option maxHeartbeats 4000000 in
theorem partA (r : RegsZ) (hr : r.ok) (n b : Int) (h2 : 0 ≤ b) (h3 : b ≤ 255) (w : World) (ha : 0 ≤ n) (hb : n < 8) (hn : n < 4) :
    Calls Try.prog 4 #[.agg (encRegs r), .int .i64 n, .int .u8 b] w fun e w' => e = .returned (.bool true) ∧ Below w.heap.size w w' := by
  have hR := Own.start w
  have hg := hr.g (n % 4).toNat
  have h4 := and3 n ha hb
  go_enter Try.func4, Try.ntmps4
  go_wp2_with (first
    | (go_at_call 10; refine (pb_yes r hr n b _ ha hb h2 h3).mono ?_; rintro e w' ⟨rfl, hb⟩; replace hR := hR.grow hb; clear hb)
    | (go_at_call 11; refine (byte_yes r hr n _ ha hb).mono ?_; rintro e w' ⟨rfl, hb⟩; replace hR := hR.grow hb; clear hb)
    | (apply wpList_box hR; exact rfl; exact rfl; clear hR; intro g w hR; simp only [List.set_cons_succ, List.set_cons_zero])
    | (apply wpList_make hR zRegs; exact rfl; clear hR; intro g w hR; simp only [List.set_cons_succ, List.set_cons_zero])
    | (apply wpList_make hR zVal; exact rfl; clear hR; intro g w hR; simp only [List.set_cons_succ, List.set_cons_zero])
    | (apply wpList_part hR tRegs; exact rfl; exact rfl; (focus (repeat (first | apply List.Mem.head | apply List.Mem.tail))); apply ext_regs; exact rfl; (simp only [List.set_cons_succ, List.set_cons_zero]; exact rfl))
    | (apply wpList_part hR tVal; exact rfl; exact rfl; (focus (repeat (first | apply List.Mem.head | apply List.Mem.tail))); (first | apply ext_val | (apply ext_g; omega) | (apply ext_s; omega)); exact rfl; (simp only [List.set_cons_succ, List.set_cons_zero]; exact rfl))
    | (apply wpList_one hR tWord; exact rfl; exact rfl; (focus (repeat (first | apply List.Mem.head | apply List.Mem.tail))); exact rfl; (simp only [List.set_cons_succ, List.set_cons_zero]; exact rfl))
    | (apply wpList_one hR tBool; exact rfl; exact rfl; (focus (repeat (first | apply List.Mem.head | apply List.Mem.tail))); exact rfl; (simp only [List.set_cons_succ, List.set_cons_zero]; exact rfl))
    | (apply wpList_put hR tRegs; exact rfl; exact rfl; exact rfl; (focus (repeat (first | apply List.Mem.head | apply List.Mem.tail))); apply put_regs; exact rfl; simp [encRegs]; apply one_regs; (focus (repeat (first | apply Upd.head | apply Upd.tail))); clear hR; intro w hR)
    | (apply wpList_put hR tVal; exact rfl; exact rfl; exact rfl; (focus (repeat (first | apply List.Mem.head | apply List.Mem.tail))); (first | apply put_val | (apply put_g; omega) | (apply put_s; omega)); exact rfl; (simp [encVal, encRegs] <;> omega); apply one_val; (focus (repeat (first | apply Upd.head | apply Upd.tail))); clear hR; intro w hR)
    | (apply wpList_built; exact rfl; exact rfl; (first | exact bVal0 | exact bVal1 _); (simp only [List.set_cons_succ, List.set_cons_zero]; exact rfl)))
  refine wp_region_rows hR [0, 1, 2, 3, 4, 5, 6, 7, 8, 9, 10, 11, 12] 0 (by kernel_rfl) (by kernel_rfl) (by kernel_rfl) rfl ?_
  clear hR; intro hR
  repeat (refine wpT_step rfl ?_; first
    | (apply wpT1_one tWord; exact rfl; exact rfl; (focus (repeat (first | apply List.Mem.head | apply List.Mem.tail))); exact rfl; (simp only [List.set_cons_succ, List.set_cons_zero]; exact rfl))
    | (apply wpT1_move; exact rfl; exact rfl; (simp only [List.set_cons_succ, List.set_cons_zero]; exact rfl))
    | (apply wpT1_assign; exact rfl; exact rfl; (simp only [List.set_cons_succ, List.set_cons_zero]; exact rfl))
    | (apply wpT1_pick; exact rfl; exact rfl; exact rfl; (simp only [List.set_cons_succ, List.set_cons_zero]; exact rfl))
    | (apply wpT1_pure; exact rfl; intro K hK; go_simp; refine hK _ ?_; clear hK K; simp only [List.set_cons_succ, List.set_cons_zero]))
  refine wpG_end hR (by kernel_rfl) ?_
  clear hR; intro w hR
  rw [want_lo _ _ hg h2 h3, old_lo _ hg, ← pbV_lo r n b hn, ← byteV_lo r n ha hb hn]
  go_wp2_with (first
    | (go_at_call 7; refine (awake03_any _).mono ?_; rintro e w' ⟨rfl, hb⟩; replace hR := hR.grow hb; clear hb)
    | (go_at_call 11; refine (byte_after r hr n b _ ha hb h2 h3).mono ?_; rintro e w' ⟨rfl, hb⟩; replace hR := hR.grow hb; clear hb)
    | (apply wpList_same Try.eqGuardType28; exact rfl; exact rfl; exact rfl; exact fit_regs _; (simp only [List.set_cons_succ, List.set_cons_zero]; exact rfl))
    | (apply wpList_box hR; exact rfl; exact rfl; clear hR; intro g w hR; simp only [List.set_cons_succ, List.set_cons_zero])
    | (apply wpList_make hR zRegs; exact rfl; clear hR; intro g w hR; simp only [List.set_cons_succ, List.set_cons_zero])
    | (apply wpList_make hR zVal; exact rfl; clear hR; intro g w hR; simp only [List.set_cons_succ, List.set_cons_zero])
    | (apply wpList_part hR tRegs; exact rfl; exact rfl; (focus (repeat (first | apply List.Mem.head | apply List.Mem.tail))); apply ext_regs; exact rfl; (simp only [List.set_cons_succ, List.set_cons_zero]; exact rfl))
    | (apply wpList_part hR tVal; exact rfl; exact rfl; (focus (repeat (first | apply List.Mem.head | apply List.Mem.tail))); (first | apply ext_val | (apply ext_g; omega) | (apply ext_s; omega)); exact rfl; (simp only [List.set_cons_succ, List.set_cons_zero]; exact rfl))
    | (apply wpList_one hR tWord; exact rfl; exact rfl; (focus (repeat (first | apply List.Mem.head | apply List.Mem.tail))); exact rfl; (simp only [List.set_cons_succ, List.set_cons_zero]; exact rfl))
    | (apply wpList_one hR tBool; exact rfl; exact rfl; (focus (repeat (first | apply List.Mem.head | apply List.Mem.tail))); exact rfl; (simp only [List.set_cons_succ, List.set_cons_zero]; exact rfl))
    | (apply wpList_put hR tRegs; exact rfl; exact rfl; exact rfl; (focus (repeat (first | apply List.Mem.head | apply List.Mem.tail))); apply put_regs; exact rfl; simp [encRegs]; apply one_regs; (focus (repeat (first | apply Upd.head | apply Upd.tail))); clear hR; intro w hR)
    | (apply wpList_put hR tVal; exact rfl; exact rfl; exact rfl; (focus (repeat (first | apply List.Mem.head | apply List.Mem.tail))); (first | apply put_val | (apply put_g; omega) | (apply put_s; omega)); exact rfl; (simp [encVal, encRegs] <;> omega); apply one_val; (focus (repeat (first | apply Upd.head | apply Upd.tail))); clear hR; intro w hR)
    | (apply wpList_built; exact rfl; exact rfl; (first | exact bVal0 | exact bVal1 _); (simp only [List.set_cons_succ, List.set_cons_zero]; exact rfl)))
  go_ret
  exact ⟨rfl, hR.below⟩
set_option maxHeartbeats 4000000 in
theorem partB (r : RegsZ) (hr : r.ok) (n b : Int) (h2 : 0 ≤ b) (h3 : b ≤ 255) (w : World) (ha : 0 ≤ n) (hb : n < 8) (hn : 4 ≤ n) :
    Calls Try.prog 4 #[.agg (encRegs r), .int .i64 n, .int .u8 b] w fun e w' => e = .returned (.bool true) ∧ Below w.heap.size w w' := by
  have hR := Own.start w
  have hg := hr.g (n % 4).toNat
  have h4 := and3 n ha hb
  go_enter Try.func4, Try.ntmps4
  go_wp2_with (first
    | (go_at_call 10; refine (pb_yes r hr n b _ ha hb h2 h3).mono ?_; rintro e w' ⟨rfl, hb⟩; replace hR := hR.grow hb; clear hb)
    | (go_at_call 11; refine (byte_yes r hr n _ ha hb).mono ?_; rintro e w' ⟨rfl, hb⟩; replace hR := hR.grow hb; clear hb)
    | (apply wpList_box hR; exact rfl; exact rfl; clear hR; intro g w hR; simp only [List.set_cons_succ, List.set_cons_zero])
    | (apply wpList_make hR zRegs; exact rfl; clear hR; intro g w hR; simp only [List.set_cons_succ, List.set_cons_zero])
    | (apply wpList_make hR zVal; exact rfl; clear hR; intro g w hR; simp only [List.set_cons_succ, List.set_cons_zero])
    | (apply wpList_part hR tRegs; exact rfl; exact rfl; (focus (repeat (first | apply List.Mem.head | apply List.Mem.tail))); apply ext_regs; exact rfl; (simp only [List.set_cons_succ, List.set_cons_zero]; exact rfl))
    | (apply wpList_part hR tVal; exact rfl; exact rfl; (focus (repeat (first | apply List.Mem.head | apply List.Mem.tail))); (first | apply ext_val | (apply ext_g; omega) | (apply ext_s; omega)); exact rfl; (simp only [List.set_cons_succ, List.set_cons_zero]; exact rfl))
    | (apply wpList_one hR tWord; exact rfl; exact rfl; (focus (repeat (first | apply List.Mem.head | apply List.Mem.tail))); exact rfl; (simp only [List.set_cons_succ, List.set_cons_zero]; exact rfl))
    | (apply wpList_one hR tBool; exact rfl; exact rfl; (focus (repeat (first | apply List.Mem.head | apply List.Mem.tail))); exact rfl; (simp only [List.set_cons_succ, List.set_cons_zero]; exact rfl))
    | (apply wpList_put hR tRegs; exact rfl; exact rfl; exact rfl; (focus (repeat (first | apply List.Mem.head | apply List.Mem.tail))); apply put_regs; exact rfl; simp [encRegs]; apply one_regs; (focus (repeat (first | apply Upd.head | apply Upd.tail))); clear hR; intro w hR)
    | (apply wpList_put hR tVal; exact rfl; exact rfl; exact rfl; (focus (repeat (first | apply List.Mem.head | apply List.Mem.tail))); (first | apply put_val | (apply put_g; omega) | (apply put_s; omega)); exact rfl; (simp [encVal, encRegs] <;> omega); apply one_val; (focus (repeat (first | apply Upd.head | apply Upd.tail))); clear hR; intro w hR)
    | (apply wpList_built; exact rfl; exact rfl; (first | exact bVal0 | exact bVal1 _); (simp only [List.set_cons_succ, List.set_cons_zero]; exact rfl)))
  refine wp_region_rows hR [0, 1, 2, 3, 4, 5, 6, 7, 8, 9, 10, 11, 12] 0 (by kernel_rfl) (by kernel_rfl) (by kernel_rfl) rfl ?_
  clear hR; intro hR
  repeat (refine wpT_step rfl ?_; first
    | (apply wpT1_one tWord; exact rfl; exact rfl; (focus (repeat (first | apply List.Mem.head | apply List.Mem.tail))); exact rfl; (simp only [List.set_cons_succ, List.set_cons_zero]; exact rfl))
    | (apply wpT1_move; exact rfl; exact rfl; (simp only [List.set_cons_succ, List.set_cons_zero]; exact rfl))
    | (apply wpT1_assign; exact rfl; exact rfl; (simp only [List.set_cons_succ, List.set_cons_zero]; exact rfl))
    | (apply wpT1_pick; exact rfl; exact rfl; exact rfl; (simp only [List.set_cons_succ, List.set_cons_zero]; exact rfl))
    | (apply wpT1_pure; exact rfl; intro K hK; go_simp; refine hK _ ?_; clear hK K; simp only [List.set_cons_succ, List.set_cons_zero]))
  refine wpG_end hR (by kernel_rfl) ?_
  clear hR; intro w hR
  rw [want_lo _ _ hg h2 h3, old_lo _ hg]
  go_wp2
  refine wp_region_rows hR [0, 1, 2, 3, 4, 5, 6, 7, 8, 9, 10, 11, 12] 0 (by kernel_rfl) (by kernel_rfl) (by kernel_rfl) rfl ?_
  clear hR; intro hR
  repeat (refine wpT_step rfl ?_; first
    | (apply wpT1_one tWord; exact rfl; exact rfl; (focus (repeat (first | apply List.Mem.head | apply List.Mem.tail))); exact rfl; (simp only [List.set_cons_succ, List.set_cons_zero]; exact rfl))
    | (apply wpT1_move; exact rfl; exact rfl; (simp only [List.set_cons_succ, List.set_cons_zero]; exact rfl))
    | (apply wpT1_assign; exact rfl; exact rfl; (simp only [List.set_cons_succ, List.set_cons_zero]; exact rfl))
    | (apply wpT1_pick; exact rfl; exact rfl; exact rfl; (simp only [List.set_cons_succ, List.set_cons_zero]; exact rfl))
    | (apply wpT1_pure; exact rfl; intro K hK; go_simp; refine hK _ ?_; clear hK K; simp only [List.set_cons_succ, List.set_cons_zero]))
  refine wpG_end hR (by kernel_rfl) ?_
  clear hR; intro w hR
  rw [want_hi _ _ hg h2 h3, old_hi _ hg, ← pbV_hi r n b hn, ← byteV_hi r n ha hb hn]
  go_wp2_with (first
    | (go_at_call 7; refine (awake03_any _).mono ?_; rintro e w' ⟨rfl, hb⟩; replace hR := hR.grow hb; clear hb)
    | (go_at_call 11; refine (byte_after r hr n b _ ha hb h2 h3).mono ?_; rintro e w' ⟨rfl, hb⟩; replace hR := hR.grow hb; clear hb)
    | (apply wpList_same Try.eqGuardType28; exact rfl; exact rfl; exact rfl; exact fit_regs _; (simp only [List.set_cons_succ, List.set_cons_zero]; exact rfl))
    | (apply wpList_box hR; exact rfl; exact rfl; clear hR; intro g w hR; simp only [List.set_cons_succ, List.set_cons_zero])
    | (apply wpList_make hR zRegs; exact rfl; clear hR; intro g w hR; simp only [List.set_cons_succ, List.set_cons_zero])
    | (apply wpList_make hR zVal; exact rfl; clear hR; intro g w hR; simp only [List.set_cons_succ, List.set_cons_zero])
    | (apply wpList_part hR tRegs; exact rfl; exact rfl; (focus (repeat (first | apply List.Mem.head | apply List.Mem.tail))); apply ext_regs; exact rfl; (simp only [List.set_cons_succ, List.set_cons_zero]; exact rfl))
    | (apply wpList_part hR tVal; exact rfl; exact rfl; (focus (repeat (first | apply List.Mem.head | apply List.Mem.tail))); (first | apply ext_val | (apply ext_g; omega) | (apply ext_s; omega)); exact rfl; (simp only [List.set_cons_succ, List.set_cons_zero]; exact rfl))
    | (apply wpList_one hR tWord; exact rfl; exact rfl; (focus (repeat (first | apply List.Mem.head | apply List.Mem.tail))); exact rfl; (simp only [List.set_cons_succ, List.set_cons_zero]; exact rfl))
    | (apply wpList_one hR tBool; exact rfl; exact rfl; (focus (repeat (first | apply List.Mem.head | apply List.Mem.tail))); exact rfl; (simp only [List.set_cons_succ, List.set_cons_zero]; exact rfl))
    | (apply wpList_put hR tRegs; exact rfl; exact rfl; exact rfl; (focus (repeat (first | apply List.Mem.head | apply List.Mem.tail))); apply put_regs; exact rfl; simp [encRegs]; apply one_regs; (focus (repeat (first | apply Upd.head | apply Upd.tail))); clear hR; intro w hR)
    | (apply wpList_put hR tVal; exact rfl; exact rfl; exact rfl; (focus (repeat (first | apply List.Mem.head | apply List.Mem.tail))); (first | apply put_val | (apply put_g; omega) | (apply put_s; omega)); exact rfl; (simp [encVal, encRegs] <;> omega); apply one_val; (focus (repeat (first | apply Upd.head | apply Upd.tail))); clear hR; intro w hR)
    | (apply wpList_built; exact rfl; exact rfl; (first | exact bVal0 | exact bVal1 _); (simp only [List.set_cons_succ, List.set_cons_zero]; exact rfl)))
  go_ret
  exact ⟨rfl, hR.below⟩

theorem walk {base : Nat} {W : World} (v0 : Value) (k0 : Value.okWide Try.prog W .any base 28 v0) (n : Int) (w1 : (Lit.int .i64 n).wf = true) (b : Int) (w2 : (Lit.int .u8 b).wf = true) (w : World) :
    Calls Try.prog 4 #[v0, .int .i64 n, .int .u8 b] w fun e w' => e = .returned (.bool true) ∧ Below w.heap.size w w' := by
  obtain ⟨r, hr, rfl⟩ := open_regs k0
  have b1 := bounds_i64 w1
  have b2 := bounds_u8 w2
  by_cases hn : 0 ≤ n ∧ n < 8
  · by_cases hc : n < 4
    · exact partA r hr n b b2.1 b2.2 w hn.1 hn.2 hc
    · exact partB r hr n b b2.1 b2.2 w hn.1 hn.2 (by omega)
  · exact partC r hr n b b1.1 b1.2 b2.1 b2.2 w (by omega)

set_option maxRecDepth 100000 in
theorem lifted (os : Os) (started : os.Started) (H : Type) (enc : TypeId × Value → H) :
    ReturnsInHanded {} Try.checked os 4 .any (Rows.regsBytesSpec.pre6 enc Try.prog Try.f4 Rows.regsBytesRow.domain false) (Rows.regsBytesSpec.post enc Try.prog Try.f4 false true false false) := by
  refine returnsInHanded_of_change (C := Try.checked) own started (by kernel_rfl) Try.func4
    (ChangeSpec.witness6 (enc := enc) (C := Try.checked) false ⟨#[], #[.agg (encRegs zeroRegs), .int .i64 0, .int .u8 0], []⟩ 8 (by kernel_rfl) (by kernel_rfl) (by kernel_rfl) (by kernel_rfl)) ?_
  intro W base args ds gs before hval0 hW hcnd _
  have hval : ∀ (j : Nat) t v, Try.f4.params[j]? = some t → args[j]? = some v → Value.okWide Try.prog W .any base t v := hval0
  have hW' := hW
  obtain ⟨p, q, hA0, hV, rfl, hfz, hnd⟩ := hW
  have hA : DataW.TrodAll enc Try.prog W 0 (fun _ => true) true Try.f4.params.toList args.toList ds p := hA0
  rw [Try.params4] at hA hval
  obtain ⟨v0, vs0, d0, ds0, p0, q0, hargs, rfl, rfl, h0, r0⟩ := trodAll_cons hA
  obtain ⟨v1, vs1, d1, ds1, p1, q1, rfl, rfl, rfl, h1, r1⟩ := trodAll_cons r0
  obtain ⟨v2, vs2, d2, ds2, p2, q2, rfl, rfl, rfl, h2, r2⟩ := trodAll_cons r1
  obtain ⟨rfl, rfl, rfl⟩ := trodAll_nil r2
  obtain rfl : args = #[v0, v1, v2] := by cases args; simp_all
  obtain ⟨rfl, rfl⟩ := trodVars_none hV
  have k0 := h0
  have lt0 : ∀ x ∈ p0, x.block < W.heap.size := by obtain ⟨m, hm⟩ := k0; exact DataW.trod_lt m _ _ _ hm
  obtain ⟨a1, rfl, rfl, rfl, w1⟩ := open_int Try.underlying3 (hval 1 3 v1 rfl rfl) h1
  obtain ⟨a2, rfl, rfl, rfl, w2⟩ := open_int Try.underlying5 (hval 2 5 v2 rfl rfl) h2
  clear hA0 hval0
  refine (walk v0 (hval 0 28 v0 rfl rfl) a1 w1 a2 w2 W).mono fun e W' ⟨he, bel⟩ => ?_
  subst he
  exact ⟨_, rfl, _, _, _, [], _, [], hW', trodAll_mk1 (shut_bool Try.underlying4 _), (trodAll_cons_mk (Below.trod laidOut (by kernel_rfl) (of_decide_eq_true (by kernel_rfl)) k0 bel lt0) (trodAll_cons_mk (shut_int Try.underlying3 w1) (trodAll_cons_mk (shut_int Try.underlying5 w2) trodAll_mk0))), rfl, bel.frame _, fun h => by cases h⟩

theorem over : Rows.regsBytesRow.holds Try.pinned (OpenSpec.ofChange Rows.regsBytesSpec) :=
  OpenClaim.holds_of_wide 4 Try.f4 rfl rfl rfl rfl rfl rfl rfl ⟨rfl, rfl, rfl, rfl, rfl⟩ rfl rfl rfl rfl rfl (by kernel_rfl) Try.func4 (by kernel_rfl)
    (of_decide_eq_true (by kernel_rfl)) (by unfold Func.isWrapper; first | (rw [if_pos (by decide +kernel)]; kernel_rfl) | (rw [if_neg (by decide +kernel)]; exact ⟨rfl, rfl⟩))
    (fun os started H enc _ => lifted os started H enc)

theorem proved : Rows.RegsBytesSaid := over
#print axioms proved
end Go.Proofs.Ytomdjaeefngcfaa.regsBytes
