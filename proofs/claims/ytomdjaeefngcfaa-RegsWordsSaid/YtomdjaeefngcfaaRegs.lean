

/- The registers as numbers ('RegsZ'), how they lie in cells, and contracts of package regs' functions. No statement of the seat is proved here. -/
import Derived.Test.YtomdjaeefngcfaaRow
import Derived.Test.YtomdjaeefngcfaaChecked
import Derived.Handy
import Derived.OpenShut
import Derived.Deep.QuietTactic
import Derived.BigQuiet
namespace Go.Proofs.Ytomdjaeefngcfaa
open Go.ChangeShapes Go.WideShapes Go.ChangeAt Go.RowKit

structure RegsZ where
  g : Nat → Int
  h : Nat → Bool
  s : Nat → Int
  u : Nat → Bool
  ip : Int
  fl : Int

def encVal (v : Int) (t : Bool) : Array Value := #[.int .u16 v, .bool t]
def encRegs (r : RegsZ) : Array Value := #[.int .u16 (r.g 0), .bool (r.h 0), .int .u16 (r.g 1), .bool (r.h 1), .int .u16 (r.g 2), .bool (r.h 2), .int .u16 (r.g 3), .bool (r.h 3),
  .int .u16 (r.g 4), .bool (r.h 4), .int .u16 (r.g 5), .bool (r.h 5), .int .u16 (r.g 6), .bool (r.h 6), .int .u16 (r.g 7), .bool (r.h 7),
  .int .u16 (r.s 0), .bool (r.u 0), .int .u16 (r.s 1), .bool (r.u 1), .int .u16 (r.s 2), .bool (r.u 2), .int .u16 (r.s 3), .bool (r.u 3), .int .u16 r.ip, .int .u16 r.fl]
def zeroRegs : RegsZ := ⟨fun _ => 0, fun _ => false, fun _ => 0, fun _ => false, 0, 0⟩

theorem zRegs : ZeroTy Try.prog 28 (encRegs zeroRegs) := .of (by kernel_rfl)
theorem zVal : ZeroTy Try.prog 24 (encVal 0 false) := .of (by kernel_rfl)
theorem bVal0 : Built Try.prog 24 [] (encVal 0 false) := ⟨by kernel_rfl⟩
theorem bVal1 (v : Int) : Built Try.prog 24 [(0, .int .u16 v)] (encVal v false) := ⟨by kernel_rfl⟩
theorem iRegs : (Try.prog.info? 28).map (·.size) = some 26 := by kernel_rfl
theorem iVal : (Try.prog.info? 24).map (·.size) = some 2 := by kernel_rfl
theorem tRegs : RowTy Try.prog 28 26 := .of Try.underlying28 rfl iRegs
theorem tVal : RowTy Try.prog 24 2 := .of Try.underlying24 rfl iVal
theorem tWord : OneTy Try.prog 22 := .of Try.underlying22 rfl (by kernel_rfl)
theorem tBool : OneTy Try.prog 4 := .of Try.underlying4 rfl (by kernel_rfl)
theorem iWord : (Try.prog.info? 22).map (·.size) = some 1 := by kernel_rfl

theorem ext_regs (r : RegsZ) : ExtRel (encRegs r) 0 26 (encRegs r) := extract_all rfl
theorem ext_val (v : Int) (t : Bool) : ExtRel (encVal v t) 0 2 (encVal v t) := extract_all rfl
theorem ext_g (r : RegsZ) (k : Nat) (hk : k < 8) : ExtRel (encRegs r) (k * 2) 2 (encVal (r.g k) (r.h k)) := by
  constructor
  match k, hk with
  | 0, _ => rfl
  | 1, _ => rfl
  | 2, _ => rfl
  | 3, _ => rfl
  | 4, _ => rfl
  | 5, _ => rfl
  | 6, _ => rfl
  | 7, _ => rfl
theorem ext_s (r : RegsZ) (k : Nat) (hk : k < 4) : ExtRel (encRegs r) (16 + k * 2) 2 (encVal (r.s k) (r.u k)) := by
  constructor
  match k, hk with
  | 0, _ => rfl
  | 1, _ => rfl
  | 2, _ => rfl
  | 3, _ => rfl

def RegsZ.putG (r : RegsZ) (n : Nat) (v : Int) (t : Bool) : RegsZ := { r with g := fun k => if k = n then v else r.g k, h := fun k => if k = n then t else r.h k }
def RegsZ.putS (r : RegsZ) (n : Nat) (v : Int) (t : Bool) : RegsZ := { r with s := fun k => if k = n then v else r.s k, u := fun k => if k = n then t else r.u k }
theorem put_g (r : RegsZ) (k : Nat) (v : Int) (t : Bool) (hk : k < 8) : PutRel (encRegs r) (k * 2) (encVal v t).toList (encRegs (r.putG k v t)) := by
  constructor
  match k, hk with
  | 0, _ => rfl
  | 1, _ => rfl
  | 2, _ => rfl
  | 3, _ => rfl
  | 4, _ => rfl
  | 5, _ => rfl
  | 6, _ => rfl
  | 7, _ => rfl
theorem put_s (r : RegsZ) (k : Nat) (v : Int) (t : Bool) (hk : k < 4) : PutRel (encRegs r) (16 + k * 2) (encVal v t).toList (encRegs (r.putS k v t)) := by
  constructor
  match k, hk with
  | 0, _ => rfl
  | 1, _ => rfl
  | 2, _ => rfl
  | 3, _ => rfl
theorem put_regs (r r' : RegsZ) : PutRel (encRegs r) 0 (encRegs r').toList (encRegs r') := putList_all rfl
theorem put_val (v v' : Int) (t t' : Bool) : PutRel (encVal v t) 0 (encVal v' t').toList (encVal v' t') := putList_all rfl

theorem one_val (v : Int) (t : Bool) : (encVal v t).all (·.oneCell') = true := by simp [encVal, Value.oneCell']
theorem one_regs (r : RegsZ) : (encRegs r).all (·.oneCell') = true := by simp [encRegs, Value.oneCell']

theorem isOne_any (n c : Int) (w : World) (h0 : -9223372036854775808 ≤ n) (h1 : n ≤ 9223372036854775807) (h2 : -9223372036854775808 ≤ c) (h3 : c ≤ 9223372036854775807) :
    Calls Try.prog 12 #[.int .i64 n, .int .i64 c] w fun e w' => e = .returned (.bool (decide (0 ≤ n ∧ n < c))) ∧ w = w' := by
  by_cases ha : 0 ≤ n
  · by_cases hb : n < c
    all_goals
      go_enter Try.func12, Try.ntmps12
      go_wp2
      go_ret
      exact ⟨ret_bool (by simp [ha, hb]), rfl⟩
  · go_enter Try.func12, Try.ntmps12
    go_wp2
    go_ret
    exact ⟨ret_bool (by simp [ha]; omega), rfl⟩
theorem isOne_yes (n c : Int) (w : World) (ha : 0 ≤ n) (hb : n < c) (h3 : c ≤ 9223372036854775807) : Calls Try.prog 12 #[.int .i64 n, .int .i64 c] w fun e w' => e = .returned (.bool true) ∧ w = w' :=
  (isOne_any n c w (by omega) (by omega) (by omega) h3).mono fun e w' ⟨he, hw⟩ => ⟨by rw [he, show decide (0 ≤ n ∧ n < c) = true from decide_eq_true ⟨ha, hb⟩], hw⟩
theorem isOne_no (n c : Int) (w : World) (hn : ¬ (0 ≤ n ∧ n < c)) (h0 : -9223372036854775808 ≤ n) (h1 : n ≤ 9223372036854775807) (h2 : -9223372036854775808 ≤ c) (h3 : c ≤ 9223372036854775807) :
    Calls Try.prog 12 #[.int .i64 n, .int .i64 c] w fun e w' => e = .returned (.bool false) ∧ w = w' :=
  (isOne_any n c w h0 h1 h2 h3).mono fun e w' ⟨he, hw⟩ => ⟨by rw [he, show decide (0 ≤ n ∧ n < c) = false from decide_eq_false hn], hw⟩

theorem val_int {k : IntKind} {a b : Int} (h : a = b) : Value.int k a = Value.int k b := by rw [h]
set_option maxHeartbeats 400000 in
theorem low_any (x : Int) (w : World) (h0 : 0 ≤ x) (h1 : x ≤ 65535) :
    Calls Try.prog 16 #[.int .u16 x] w fun e w' => e = .returned (.int .u8 (x % 256)) ∧ w = w' := by
  go_enter Try.func16, Try.ntmps16
  go_wp2
  go_ret
  exact ⟨ret_int (by simp only [IntKind.wrap_u8]), rfl⟩

set_option maxHeartbeats 400000 in
theorem high_any (x : Int) (w : World) (h0 : 0 ≤ x) (h1 : x ≤ 65535) :
    Calls Try.prog 17 #[.int .u16 x] w fun e w' => e = .returned (.int .u8 (x / 256)) ∧ w = w' := by
  go_enter Try.func17, Try.ntmps17
  go_wp2
  go_ret
  exact ⟨ret_int (by first | rfl | (simp only [IntKind.wrap_u8]; omega)), rfl⟩

set_option maxHeartbeats 400000 in
theorem word_any (l h : Int) (w : World) (h0 : 0 ≤ l) (h1 : l ≤ 255) (h2 : 0 ≤ h) (h3 : h ≤ 255) :
    Calls Try.prog 18 #[.int .u8 l, .int .u8 h] w fun e w' => e = .returned (.int .u16 (h * 256 + l)) ∧ w = w' := by
  go_enter Try.func18, Try.ntmps18
  go_wp2
  go_ret
  refine ⟨ret_int ?_, rfl⟩
  rw [u16_or _ _ (by omega) (by omega) (by omega) (by omega), nat_join 8 _ _ (by omega) (by omega)]
  omega

/-! ### Words -/
def inB (n : Int) (c : Int) : Bool := decide (0 ≤ n ∧ n < c)
def getV (r : RegsZ) (n : Int) : Int := if inB n 8 then r.g n.toNat else 0
def getT (r : RegsZ) (n : Int) : Bool := if inB n 8 then r.h n.toNat else false
def segV (r : RegsZ) (n : Int) : Int := if inB n 4 then r.s n.toNat else 0
def segT (r : RegsZ) (n : Int) : Bool := if inB n 4 then r.u n.toNat else false
def RegsZ.put (r : RegsZ) (n : Int) (v : Int) (t : Bool) : RegsZ := if inB n 8 then r.putG n.toNat v t else r
def RegsZ.putSeg (r : RegsZ) (n : Int) (v : Int) (t : Bool) : RegsZ := if inB n 4 then r.putS n.toNat v t else r
theorem inB_yes {n c : Int} (a : 0 ≤ n) (b : n < c) : inB n c = true := decide_eq_true ⟨a, b⟩
theorem inB_no {n c : Int} (h : ¬ (0 ≤ n ∧ n < c)) : inB n c = false := decide_eq_false h

set_option maxHeartbeats 1000000 in
theorem get_any (r : RegsZ) (n : Int) (w : World) (h0 : -9223372036854775808 ≤ n) (h1 : n ≤ 9223372036854775807) :
    Calls Try.prog 8 #[.agg (encRegs r), .int .i64 n] w fun e w' => e = .returned (.agg (encVal (getV r n) (getT r n))) ∧ Below w.heap.size w w' := by
  have hR := Own.start w
  by_cases hn : 0 ≤ n ∧ n < 8
  · obtain ⟨ha, hb⟩ := hn
    rw [show getV r n = r.g n.toNat from if_pos (inB_yes ha hb), show getT r n = r.h n.toNat from if_pos (inB_yes ha hb)]
    go_enter Try.func8, Try.ntmps8
    go_wp2_with (first
    | (go_at_call 12; refine (isOne_yes _ _ _ (by omega) (by omega) (by omega)).mono ?_; rintro e w' ⟨rfl, rfl⟩)
    | (apply wpList_box hR; exact rfl; exact rfl; clear hR; intro g w hR; simp only [List.set_cons_succ, List.set_cons_zero])
    | (apply wpList_make hR zRegs; exact rfl; clear hR; intro g w hR; simp only [List.set_cons_succ, List.set_cons_zero])
    | (apply wpList_make hR zVal; exact rfl; clear hR; intro g w hR; simp only [List.set_cons_succ, List.set_cons_zero])
    | (apply wpList_part hR tRegs; exact rfl; exact rfl; (focus (repeat (first | apply List.Mem.head | apply List.Mem.tail))); apply ext_regs; exact rfl; (simp only [List.set_cons_succ, List.set_cons_zero]; exact rfl))
    | (apply wpList_part hR tVal; exact rfl; exact rfl; (focus (repeat (first | apply List.Mem.head | apply List.Mem.tail))); (first | apply ext_val | (apply ext_g; omega) | (apply ext_s; omega)); exact rfl; (simp only [List.set_cons_succ, List.set_cons_zero]; exact rfl))
    | (apply wpList_one hR tWord; exact rfl; exact rfl; (focus (repeat (first | apply List.Mem.head | apply List.Mem.tail))); exact rfl; (simp only [List.set_cons_succ, List.set_cons_zero]; exact rfl))
    | (apply wpList_one hR tBool; exact rfl; exact rfl; (focus (repeat (first | apply List.Mem.head | apply List.Mem.tail))); exact rfl; (simp only [List.set_cons_succ, List.set_cons_zero]; exact rfl))
    | (apply wpList_put hR tRegs; exact rfl; exact rfl; exact rfl; (focus (repeat (first | apply List.Mem.head | apply List.Mem.tail))); apply put_regs; exact rfl; simp [encRegs]; apply one_regs; (focus (repeat (first | apply Upd.head | apply Upd.tail))); clear hR; intro w hR)
    | (apply wpList_put hR tVal; exact rfl; exact rfl; exact rfl; (focus (repeat (first | apply List.Mem.head | apply List.Mem.tail))); (first | apply put_val | (apply put_g; omega) | (apply put_s; omega)); exact rfl; (simp [encVal, encRegs] <;> omega); apply one_val; (focus (repeat (first | apply Upd.head | apply Upd.tail))); clear hR; intro w hR)
    | (apply wpList_built; exact rfl; exact rfl; (first | exact bVal0 | exact bVal1 _); (simp only [List.set_cons_succ, List.set_cons_zero]; exact rfl)))
    (try simp only [Exit.inBlock, Exit.then])
    exact post_row hR rfl (by rfl) (.head _) Try.underlying24 rfl iVal (by rfl) (by rfl) ⟨rfl, hR.below⟩
  · have HN := Lib.hid hn
    rw [show getV r n = 0 from if_neg (by rw [inB_no hn]; exact Bool.false_ne_true), show getT r n = false from if_neg (by rw [inB_no hn]; exact Bool.false_ne_true)]
    clear hn
    go_enter Try.func8, Try.ntmps8
    go_wp2_with (first
    | (go_at_call 12; refine (isOne_no _ _ _ HN.out h0 h1 (by omega) (by omega)).mono ?_; rintro e w' ⟨rfl, rfl⟩)
    | (apply wpList_box hR; exact rfl; exact rfl; clear hR; intro g w hR; simp only [List.set_cons_succ, List.set_cons_zero])
    | (apply wpList_make hR zRegs; exact rfl; clear hR; intro g w hR; simp only [List.set_cons_succ, List.set_cons_zero])
    | (apply wpList_make hR zVal; exact rfl; clear hR; intro g w hR; simp only [List.set_cons_succ, List.set_cons_zero])
    | (apply wpList_part hR tRegs; exact rfl; exact rfl; (focus (repeat (first | apply List.Mem.head | apply List.Mem.tail))); apply ext_regs; exact rfl; (simp only [List.set_cons_succ, List.set_cons_zero]; exact rfl))
    | (apply wpList_part hR tVal; exact rfl; exact rfl; (focus (repeat (first | apply List.Mem.head | apply List.Mem.tail))); (first | apply ext_val | (apply ext_g; omega) | (apply ext_s; omega)); exact rfl; (simp only [List.set_cons_succ, List.set_cons_zero]; exact rfl))
    | (apply wpList_one hR tWord; exact rfl; exact rfl; (focus (repeat (first | apply List.Mem.head | apply List.Mem.tail))); exact rfl; (simp only [List.set_cons_succ, List.set_cons_zero]; exact rfl))
    | (apply wpList_one hR tBool; exact rfl; exact rfl; (focus (repeat (first | apply List.Mem.head | apply List.Mem.tail))); exact rfl; (simp only [List.set_cons_succ, List.set_cons_zero]; exact rfl))
    | (apply wpList_put hR tRegs; exact rfl; exact rfl; exact rfl; (focus (repeat (first | apply List.Mem.head | apply List.Mem.tail))); apply put_regs; exact rfl; simp [encRegs]; apply one_regs; (focus (repeat (first | apply Upd.head | apply Upd.tail))); clear hR; intro w hR)
    | (apply wpList_put hR tVal; exact rfl; exact rfl; exact rfl; (focus (repeat (first | apply List.Mem.head | apply List.Mem.tail))); (first | apply put_val | (apply put_g; omega) | (apply put_s; omega)); exact rfl; (simp [encVal, encRegs] <;> omega); apply one_val; (focus (repeat (first | apply Upd.head | apply Upd.tail))); clear hR; intro w hR)
    | (apply wpList_built; exact rfl; exact rfl; (first | exact bVal0 | exact bVal1 _); (simp only [List.set_cons_succ, List.set_cons_zero]; exact rfl)))
    (try simp only [Exit.inBlock, Exit.then])
    exact post_row hR rfl (by rfl) (.head _) Try.underlying24 rfl iVal (by rfl) (by rfl) ⟨rfl, hR.below⟩

set_option maxHeartbeats 1000000 in
theorem seg_any (r : RegsZ) (n : Int) (w : World) (h0 : -9223372036854775808 ≤ n) (h1 : n ≤ 9223372036854775807) :
    Calls Try.prog 9 #[.agg (encRegs r), .int .i64 n] w fun e w' => e = .returned (.agg (encVal (segV r n) (segT r n))) ∧ Below w.heap.size w w' := by
  have hR := Own.start w
  by_cases hn : 0 ≤ n ∧ n < 4
  · obtain ⟨ha, hb⟩ := hn
    rw [show segV r n = r.s n.toNat from if_pos (inB_yes ha hb), show segT r n = r.u n.toNat from if_pos (inB_yes ha hb)]
    go_enter Try.func9, Try.ntmps9
    go_wp2_with (first
    | (go_at_call 12; refine (isOne_yes _ _ _ (by omega) (by omega) (by omega)).mono ?_; rintro e w' ⟨rfl, rfl⟩)
    | (apply wpList_box hR; exact rfl; exact rfl; clear hR; intro g w hR; simp only [List.set_cons_succ, List.set_cons_zero])
    | (apply wpList_make hR zRegs; exact rfl; clear hR; intro g w hR; simp only [List.set_cons_succ, List.set_cons_zero])
    | (apply wpList_make hR zVal; exact rfl; clear hR; intro g w hR; simp only [List.set_cons_succ, List.set_cons_zero])
    | (apply wpList_part hR tRegs; exact rfl; exact rfl; (focus (repeat (first | apply List.Mem.head | apply List.Mem.tail))); apply ext_regs; exact rfl; (simp only [List.set_cons_succ, List.set_cons_zero]; exact rfl))
    | (apply wpList_part hR tVal; exact rfl; exact rfl; (focus (repeat (first | apply List.Mem.head | apply List.Mem.tail))); (first | apply ext_val | (apply ext_g; omega) | (apply ext_s; omega)); exact rfl; (simp only [List.set_cons_succ, List.set_cons_zero]; exact rfl))
    | (apply wpList_one hR tWord; exact rfl; exact rfl; (focus (repeat (first | apply List.Mem.head | apply List.Mem.tail))); exact rfl; (simp only [List.set_cons_succ, List.set_cons_zero]; exact rfl))
    | (apply wpList_one hR tBool; exact rfl; exact rfl; (focus (repeat (first | apply List.Mem.head | apply List.Mem.tail))); exact rfl; (simp only [List.set_cons_succ, List.set_cons_zero]; exact rfl))
    | (apply wpList_put hR tRegs; exact rfl; exact rfl; exact rfl; (focus (repeat (first | apply List.Mem.head | apply List.Mem.tail))); apply put_regs; exact rfl; simp [encRegs]; apply one_regs; (focus (repeat (first | apply Upd.head | apply Upd.tail))); clear hR; intro w hR)
    | (apply wpList_put hR tVal; exact rfl; exact rfl; exact rfl; (focus (repeat (first | apply List.Mem.head | apply List.Mem.tail))); (first | apply put_val | (apply put_g; omega) | (apply put_s; omega)); exact rfl; (simp [encVal, encRegs] <;> omega); apply one_val; (focus (repeat (first | apply Upd.head | apply Upd.tail))); clear hR; intro w hR)
    | (apply wpList_built; exact rfl; exact rfl; (first | exact bVal0 | exact bVal1 _); (simp only [List.set_cons_succ, List.set_cons_zero]; exact rfl)))
    (try simp only [Exit.inBlock, Exit.then])
    exact post_row hR rfl (by rfl) (.head _) Try.underlying24 rfl iVal (by rfl) (by rfl) ⟨rfl, hR.below⟩
  · have HN := Lib.hid hn
    rw [show segV r n = 0 from if_neg (by rw [inB_no hn]; exact Bool.false_ne_true), show segT r n = false from if_neg (by rw [inB_no hn]; exact Bool.false_ne_true)]
    clear hn
    go_enter Try.func9, Try.ntmps9
    go_wp2_with (first
    | (go_at_call 12; refine (isOne_no _ _ _ HN.out h0 h1 (by omega) (by omega)).mono ?_; rintro e w' ⟨rfl, rfl⟩)
    | (apply wpList_box hR; exact rfl; exact rfl; clear hR; intro g w hR; simp only [List.set_cons_succ, List.set_cons_zero])
    | (apply wpList_make hR zRegs; exact rfl; clear hR; intro g w hR; simp only [List.set_cons_succ, List.set_cons_zero])
    | (apply wpList_make hR zVal; exact rfl; clear hR; intro g w hR; simp only [List.set_cons_succ, List.set_cons_zero])
    | (apply wpList_part hR tRegs; exact rfl; exact rfl; (focus (repeat (first | apply List.Mem.head | apply List.Mem.tail))); apply ext_regs; exact rfl; (simp only [List.set_cons_succ, List.set_cons_zero]; exact rfl))
    | (apply wpList_part hR tVal; exact rfl; exact rfl; (focus (repeat (first | apply List.Mem.head | apply List.Mem.tail))); (first | apply ext_val | (apply ext_g; omega) | (apply ext_s; omega)); exact rfl; (simp only [List.set_cons_succ, List.set_cons_zero]; exact rfl))
    | (apply wpList_one hR tWord; exact rfl; exact rfl; (focus (repeat (first | apply List.Mem.head | apply List.Mem.tail))); exact rfl; (simp only [List.set_cons_succ, List.set_cons_zero]; exact rfl))
    | (apply wpList_one hR tBool; exact rfl; exact rfl; (focus (repeat (first | apply List.Mem.head | apply List.Mem.tail))); exact rfl; (simp only [List.set_cons_succ, List.set_cons_zero]; exact rfl))
    | (apply wpList_put hR tRegs; exact rfl; exact rfl; exact rfl; (focus (repeat (first | apply List.Mem.head | apply List.Mem.tail))); apply put_regs; exact rfl; simp [encRegs]; apply one_regs; (focus (repeat (first | apply Upd.head | apply Upd.tail))); clear hR; intro w hR)
    | (apply wpList_put hR tVal; exact rfl; exact rfl; exact rfl; (focus (repeat (first | apply List.Mem.head | apply List.Mem.tail))); (first | apply put_val | (apply put_g; omega) | (apply put_s; omega)); exact rfl; (simp [encVal, encRegs] <;> omega); apply one_val; (focus (repeat (first | apply Upd.head | apply Upd.tail))); clear hR; intro w hR)
    | (apply wpList_built; exact rfl; exact rfl; (first | exact bVal0 | exact bVal1 _); (simp only [List.set_cons_succ, List.set_cons_zero]; exact rfl)))
    (try simp only [Exit.inBlock, Exit.then])
    exact post_row hR rfl (by rfl) (.head _) Try.underlying24 rfl iVal (by rfl) (by rfl) ⟨rfl, hR.below⟩

set_option maxHeartbeats 1000000 in
theorem put_any (r : RegsZ) (n : Int) (v : Int) (t : Bool) (w : World) (h0 : -9223372036854775808 ≤ n) (h1 : n ≤ 9223372036854775807) :
    Calls Try.prog 5 #[.agg (encRegs r), .int .i64 n, .agg (encVal v t)] w fun e w' => e = .returned (.agg (encRegs (r.put n v t))) ∧ Below w.heap.size w w' := by
  have hR := Own.start w
  by_cases hn : 0 ≤ n ∧ n < 8
  · obtain ⟨ha, hb⟩ := hn
    rw [show r.put n v t = r.putG n.toNat v t from if_pos (inB_yes ha hb)]
    go_enter Try.func5, Try.ntmps5
    go_wp2_with (first
    | (go_at_call 12; refine (isOne_yes _ _ _ (by omega) (by omega) (by omega)).mono ?_; rintro e w' ⟨rfl, rfl⟩)
    | (apply wpList_box hR; exact rfl; exact rfl; clear hR; intro g w hR; simp only [List.set_cons_succ, List.set_cons_zero])
    | (apply wpList_make hR zRegs; exact rfl; clear hR; intro g w hR; simp only [List.set_cons_succ, List.set_cons_zero])
    | (apply wpList_make hR zVal; exact rfl; clear hR; intro g w hR; simp only [List.set_cons_succ, List.set_cons_zero])
    | (apply wpList_part hR tRegs; exact rfl; exact rfl; (focus (repeat (first | apply List.Mem.head | apply List.Mem.tail))); apply ext_regs; exact rfl; (simp only [List.set_cons_succ, List.set_cons_zero]; exact rfl))
    | (apply wpList_part hR tVal; exact rfl; exact rfl; (focus (repeat (first | apply List.Mem.head | apply List.Mem.tail))); (first | apply ext_val | (apply ext_g; omega) | (apply ext_s; omega)); exact rfl; (simp only [List.set_cons_succ, List.set_cons_zero]; exact rfl))
    | (apply wpList_one hR tWord; exact rfl; exact rfl; (focus (repeat (first | apply List.Mem.head | apply List.Mem.tail))); exact rfl; (simp only [List.set_cons_succ, List.set_cons_zero]; exact rfl))
    | (apply wpList_one hR tBool; exact rfl; exact rfl; (focus (repeat (first | apply List.Mem.head | apply List.Mem.tail))); exact rfl; (simp only [List.set_cons_succ, List.set_cons_zero]; exact rfl))
    | (apply wpList_put hR tRegs; exact rfl; exact rfl; exact rfl; (focus (repeat (first | apply List.Mem.head | apply List.Mem.tail))); apply put_regs; exact rfl; simp [encRegs]; apply one_regs; (focus (repeat (first | apply Upd.head | apply Upd.tail))); clear hR; intro w hR)
    | (apply wpList_put hR tVal; exact rfl; exact rfl; exact rfl; (focus (repeat (first | apply List.Mem.head | apply List.Mem.tail))); (first | apply put_val | (apply put_g; omega) | (apply put_s; omega)); exact rfl; (simp [encVal, encRegs] <;> omega); apply one_val; (focus (repeat (first | apply Upd.head | apply Upd.tail))); clear hR; intro w hR)
    | (apply wpList_built; exact rfl; exact rfl; (first | exact bVal0 | exact bVal1 _); (simp only [List.set_cons_succ, List.set_cons_zero]; exact rfl)))
    (try simp only [Exit.inBlock, Exit.then])
    exact post_row hR rfl (by rfl) (.head _) Try.underlying28 rfl iRegs (by rfl) (by rfl) ⟨rfl, hR.below⟩
  · have HN := Lib.hid hn
    rw [show r.put n v t = r from if_neg (by rw [inB_no hn]; exact Bool.false_ne_true)]
    clear hn
    go_enter Try.func5, Try.ntmps5
    go_wp2_with (first
    | (go_at_call 12; refine (isOne_no _ _ _ HN.out h0 h1 (by omega) (by omega)).mono ?_; rintro e w' ⟨rfl, rfl⟩)
    | (apply wpList_box hR; exact rfl; exact rfl; clear hR; intro g w hR; simp only [List.set_cons_succ, List.set_cons_zero])
    | (apply wpList_make hR zRegs; exact rfl; clear hR; intro g w hR; simp only [List.set_cons_succ, List.set_cons_zero])
    | (apply wpList_make hR zVal; exact rfl; clear hR; intro g w hR; simp only [List.set_cons_succ, List.set_cons_zero])
    | (apply wpList_part hR tRegs; exact rfl; exact rfl; (focus (repeat (first | apply List.Mem.head | apply List.Mem.tail))); apply ext_regs; exact rfl; (simp only [List.set_cons_succ, List.set_cons_zero]; exact rfl))
    | (apply wpList_part hR tVal; exact rfl; exact rfl; (focus (repeat (first | apply List.Mem.head | apply List.Mem.tail))); (first | apply ext_val | (apply ext_g; omega) | (apply ext_s; omega)); exact rfl; (simp only [List.set_cons_succ, List.set_cons_zero]; exact rfl))
    | (apply wpList_one hR tWord; exact rfl; exact rfl; (focus (repeat (first | apply List.Mem.head | apply List.Mem.tail))); exact rfl; (simp only [List.set_cons_succ, List.set_cons_zero]; exact rfl))
    | (apply wpList_one hR tBool; exact rfl; exact rfl; (focus (repeat (first | apply List.Mem.head | apply List.Mem.tail))); exact rfl; (simp only [List.set_cons_succ, List.set_cons_zero]; exact rfl))
    | (apply wpList_put hR tRegs; exact rfl; exact rfl; exact rfl; (focus (repeat (first | apply List.Mem.head | apply List.Mem.tail))); apply put_regs; exact rfl; simp [encRegs]; apply one_regs; (focus (repeat (first | apply Upd.head | apply Upd.tail))); clear hR; intro w hR)
    | (apply wpList_put hR tVal; exact rfl; exact rfl; exact rfl; (focus (repeat (first | apply List.Mem.head | apply List.Mem.tail))); (first | apply put_val | (apply put_g; omega) | (apply put_s; omega)); exact rfl; (simp [encVal, encRegs] <;> omega); apply one_val; (focus (repeat (first | apply Upd.head | apply Upd.tail))); clear hR; intro w hR)
    | (apply wpList_built; exact rfl; exact rfl; (first | exact bVal0 | exact bVal1 _); (simp only [List.set_cons_succ, List.set_cons_zero]; exact rfl)))
    (try simp only [Exit.inBlock, Exit.then])
    exact post_row hR rfl (by rfl) (.head _) Try.underlying28 rfl iRegs (by rfl) (by rfl) ⟨rfl, hR.below⟩

set_option maxHeartbeats 1000000 in
theorem putSeg_any (r : RegsZ) (n : Int) (v : Int) (t : Bool) (w : World) (h0 : -9223372036854775808 ≤ n) (h1 : n ≤ 9223372036854775807) :
    Calls Try.prog 6 #[.agg (encRegs r), .int .i64 n, .agg (encVal v t)] w fun e w' => e = .returned (.agg (encRegs (r.putSeg n v t))) ∧ Below w.heap.size w w' := by
  have hR := Own.start w
  by_cases hn : 0 ≤ n ∧ n < 4
  · obtain ⟨ha, hb⟩ := hn
    rw [show r.putSeg n v t = r.putS n.toNat v t from if_pos (inB_yes ha hb)]
    go_enter Try.func6, Try.ntmps6
    go_wp2_with (first
    | (go_at_call 12; refine (isOne_yes _ _ _ (by omega) (by omega) (by omega)).mono ?_; rintro e w' ⟨rfl, rfl⟩)
    | (apply wpList_box hR; exact rfl; exact rfl; clear hR; intro g w hR; simp only [List.set_cons_succ, List.set_cons_zero])
    | (apply wpList_make hR zRegs; exact rfl; clear hR; intro g w hR; simp only [List.set_cons_succ, List.set_cons_zero])
    | (apply wpList_make hR zVal; exact rfl; clear hR; intro g w hR; simp only [List.set_cons_succ, List.set_cons_zero])
    | (apply wpList_part hR tRegs; exact rfl; exact rfl; (focus (repeat (first | apply List.Mem.head | apply List.Mem.tail))); apply ext_regs; exact rfl; (simp only [List.set_cons_succ, List.set_cons_zero]; exact rfl))
    | (apply wpList_part hR tVal; exact rfl; exact rfl; (focus (repeat (first | apply List.Mem.head | apply List.Mem.tail))); (first | apply ext_val | (apply ext_g; omega) | (apply ext_s; omega)); exact rfl; (simp only [List.set_cons_succ, List.set_cons_zero]; exact rfl))
    | (apply wpList_one hR tWord; exact rfl; exact rfl; (focus (repeat (first | apply List.Mem.head | apply List.Mem.tail))); exact rfl; (simp only [List.set_cons_succ, List.set_cons_zero]; exact rfl))
    | (apply wpList_one hR tBool; exact rfl; exact rfl; (focus (repeat (first | apply List.Mem.head | apply List.Mem.tail))); exact rfl; (simp only [List.set_cons_succ, List.set_cons_zero]; exact rfl))
    | (apply wpList_put hR tRegs; exact rfl; exact rfl; exact rfl; (focus (repeat (first | apply List.Mem.head | apply List.Mem.tail))); apply put_regs; exact rfl; simp [encRegs]; apply one_regs; (focus (repeat (first | apply Upd.head | apply Upd.tail))); clear hR; intro w hR)
    | (apply wpList_put hR tVal; exact rfl; exact rfl; exact rfl; (focus (repeat (first | apply List.Mem.head | apply List.Mem.tail))); (first | apply put_val | (apply put_g; omega) | (apply put_s; omega)); exact rfl; (simp [encVal, encRegs] <;> omega); apply one_val; (focus (repeat (first | apply Upd.head | apply Upd.tail))); clear hR; intro w hR)
    | (apply wpList_built; exact rfl; exact rfl; (first | exact bVal0 | exact bVal1 _); (simp only [List.set_cons_succ, List.set_cons_zero]; exact rfl)))
    (try simp only [Exit.inBlock, Exit.then])
    exact post_row hR rfl (by rfl) (.head _) Try.underlying28 rfl iRegs (by rfl) (by rfl) ⟨rfl, hR.below⟩
  · have HN := Lib.hid hn
    rw [show r.putSeg n v t = r from if_neg (by rw [inB_no hn]; exact Bool.false_ne_true)]
    clear hn
    go_enter Try.func6, Try.ntmps6
    go_wp2_with (first
    | (go_at_call 12; refine (isOne_no _ _ _ HN.out h0 h1 (by omega) (by omega)).mono ?_; rintro e w' ⟨rfl, rfl⟩)
    | (apply wpList_box hR; exact rfl; exact rfl; clear hR; intro g w hR; simp only [List.set_cons_succ, List.set_cons_zero])
    | (apply wpList_make hR zRegs; exact rfl; clear hR; intro g w hR; simp only [List.set_cons_succ, List.set_cons_zero])
    | (apply wpList_make hR zVal; exact rfl; clear hR; intro g w hR; simp only [List.set_cons_succ, List.set_cons_zero])
    | (apply wpList_part hR tRegs; exact rfl; exact rfl; (focus (repeat (first | apply List.Mem.head | apply List.Mem.tail))); apply ext_regs; exact rfl; (simp only [List.set_cons_succ, List.set_cons_zero]; exact rfl))
    | (apply wpList_part hR tVal; exact rfl; exact rfl; (focus (repeat (first | apply List.Mem.head | apply List.Mem.tail))); (first | apply ext_val | (apply ext_g; omega) | (apply ext_s; omega)); exact rfl; (simp only [List.set_cons_succ, List.set_cons_zero]; exact rfl))
    | (apply wpList_one hR tWord; exact rfl; exact rfl; (focus (repeat (first | apply List.Mem.head | apply List.Mem.tail))); exact rfl; (simp only [List.set_cons_succ, List.set_cons_zero]; exact rfl))
    | (apply wpList_one hR tBool; exact rfl; exact rfl; (focus (repeat (first | apply List.Mem.head | apply List.Mem.tail))); exact rfl; (simp only [List.set_cons_succ, List.set_cons_zero]; exact rfl))
    | (apply wpList_put hR tRegs; exact rfl; exact rfl; exact rfl; (focus (repeat (first | apply List.Mem.head | apply List.Mem.tail))); apply put_regs; exact rfl; simp [encRegs]; apply one_regs; (focus (repeat (first | apply Upd.head | apply Upd.tail))); clear hR; intro w hR)
    | (apply wpList_put hR tVal; exact rfl; exact rfl; exact rfl; (focus (repeat (first | apply List.Mem.head | apply List.Mem.tail))); (first | apply put_val | (apply put_g; omega) | (apply put_s; omega)); exact rfl; (simp [encVal, encRegs] <;> omega); apply one_val; (focus (repeat (first | apply Upd.head | apply Upd.tail))); clear hR; intro w hR)
    | (apply wpList_built; exact rfl; exact rfl; (first | exact bVal0 | exact bVal1 _); (simp only [List.set_cons_succ, List.set_cons_zero]; exact rfl)))
    (try simp only [Exit.inBlock, Exit.then])
    exact post_row hR rfl (by rfl) (.head _) Try.underlying28 rfl iRegs (by rfl) (by rfl) ⟨rfl, hR.below⟩
structure RegsZ.ok (r : RegsZ) : Prop where
  g : ∀ k, 0 ≤ r.g k ∧ r.g k ≤ 65535
  s : ∀ k, 0 ≤ r.s k ∧ r.s k ≤ 65535
  ip : 0 ≤ r.ip ∧ r.ip ≤ 65535
  fl : 0 ≤ r.fl ∧ r.fl ≤ 65535
end Go.Proofs.Ytomdjaeefngcfaa
