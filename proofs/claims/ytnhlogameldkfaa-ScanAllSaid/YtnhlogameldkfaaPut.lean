


/- The contract of hansomref05.Put: the bytes of an instruction ('putL'). No statement of the seat is proved here. -/
import Derived.Test.YtnhlogameldkfaaInstR
import Derived.Test.YtnhlogameldkfaaSlice
namespace Go.Proofs.Ytnhlogameldkfaa
open Go.ChangeShapes Go.WideShapes Go.ChangeAt Go.RowKit
set_option linter.unusedVariables false
set_option linter.unusedSimpArgs false

theorem bS0 : BuiltS Try.prog 26 0 [] 5 #[] := ⟨fun w => by simp [go_sem]⟩
theorem bS1 (x : Int) : BuiltS Try.prog 26 1 [(0, .int .u8 x)] 5 #[.int .u8 x] := ⟨fun w => by simp [go_sem]⟩
theorem bS2 (x y : Int) : BuiltS Try.prog 26 2 [(0, .int .u8 x), (1, .int .u8 y)] 5 #[.int .u8 x, .int .u8 y] := ⟨fun w => by simp [go_sem]⟩
theorem tBytes : SliceTy Try.prog 26 5 := .of (z := .int .u8 0) (b := 1) Try.underlying26 (by kernel_rfl) (by decide) (by rfl)

/-- A slice of two bytes, in a new row. -/
def RetTwo (w : World) (a b : Int) (en : Ending) (w' : World) : Prop :=
  ∃ g, en = .returned (.slice (some ⟨g, 0, none⟩) 2 2) ∧ Own w w' [(g, #[.int .u8 a, .int .u8 b], 5)]
theorem two5_any (x : Int) (w : World) (h0 : 0 ≤ x) (h1 : x ≤ 65535) :
    Calls Try.prog 17 #[.int .u16 x] w (RetTwo w (x % 256) (x / 256)) := by
  have hR := Own.start w
  go_enter Try.func17, Try.ntmps17
  go_wp2_with (first
    | ((with_reducible apply wpList_buildS hR); exact rfl; exact rfl; exact bS2 _ _; clear hR; intro g w hR; simp only [List.set_cons_succ, List.set_cons_zero]))
  go_ret
  rw [show IntKind.u16.wrap (x.tdiv 256) % 256 = x / 256 from by rw [Int.tdiv_eq_ediv_of_nonneg h0]; simp only [IntKind.wrap_u16]; omega] at hR
  exact ⟨g, rfl, hR⟩

def b8 (x : Int) : Value := .int .u8 x
def lockV (i : InstZ) : List Value := bif i.lock then [b8 240] else []
def repV (i : InstZ) : List Value := bif decide (0 < i.rep) then [b8 (241 + i.rep)] else []
def segV (i : InstZ) : List Value := bif decide (0 < i.seg) then [b8 (30 + 8 * i.seg)] else []
def twoV (x : Int) : List Value := [b8 (x % 256), b8 (x / 256)]
def midZ (i : InstZ) : Int := 64 * i.mod + 8 * i.reg + i.rm
def midV (i : InstZ) : List Value := bif i.row.m then b8 (midZ i) :: (twoV i.disp).take (dispsZ i.mod i.rm).toNat else []
def immV (i : InstZ) : List Value := bif immsZ i.row == 1 then (twoV i.imm).take 1 else bif immsZ i.row == 2 then twoV i.imm else bif immsZ i.row == 4 then twoV i.imm ++ twoV i.sel else []
def putL (i : InstZ) : List Value := lockV i ++ repV i ++ segV i ++ [b8 i.op] ++ midV i ++ immV i
/-- What Put asks of an instruction's numbers. -/
structure Near0 (i : InstZ) : Prop where
  rep : i.rep ≤ 2
  seg : i.seg ≤ 4
  mid : i.row.m = true → (0 ≤ i.mod ∧ i.mod ≤ 3) ∧ (0 ≤ i.reg ∧ i.reg ≤ 7) ∧ (0 ≤ i.rm ∧ i.rm ≤ 7)

theorem SlIs.first {a b : Value} {k : Nat} (h : k ≤ 2) : SlIs #[a, b] k 2 ([a, b].take k) := ⟨by simp; omega, h, by simp [maxLen], rfl, rfl⟩
theorem SlIs.cast {cur : Array Value} {n cap : Nat} {xs ys : List Value} (h : SlIs cur n cap xs) (e : xs = ys) : SlIs cur n cap ys := e ▸ h
theorem ones_two (a b : Int) (k : Nat) : (([b8 a, b8 b] : List Value).take k).all (·.oneCell') = true := by
  match k with
  | 0 => rfl
  | 1 => rfl
  | 2 => rfl
  | k + 3 => rfl
theorem put_fin {i : InstZ} {cur : Array Value} {m cap : Nat} {xs ys : List Value} (h1 : immV i = ys) (h2 : SlIs cur m cap xs) (h3 : xs = lockV i ++ repV i ++ segV i ++ [b8 i.op] ++ midV i ++ ys) : xs = putL i ∧ m = (putL i).length ∧ SlIs cur (putL i).length cap (putL i) := by
  subst h1
  have e : xs = putL i := h3
  subst e
  exact ⟨rfl, h2.len.symm, by have := h2.len; rw [this]; exact h2⟩
theorem retSl_of {w0 w' : World} {e : TypeId} {xs : List Value} {g m cap : Nat} {cur : Array Value} {v : Value} (hv : v = .slice (some ⟨g, 0, none⟩) m cap) (hm : m = xs.length) (hO : Own w0 w' [(g, cur, e)]) (hS : SlIs cur xs.length cap xs) : RetSl w0 e xs (.returned v) w' :=
  ⟨g, cur, cap, by rw [hv, hm], hO, hS⟩
/-- How far Put has come. -/
def OutIs (w0 : World) (xs : List Value) (m : Nat) (l : List RowT) (v : Value) (wx : World) : Prop :=
  ∃ g cur cap n, v = .slice (some ⟨g, 0, none⟩) n cap ∧ n ≤ m ∧ Own w0 wx ((g, cur, 5) :: l) ∧ SlIs cur n cap xs

set_option maxHeartbeats 1000000 in
set_option maxRecDepth 100000 in
theorem put5_any (i : InstZ) (hi : i.ok) (hn : Near0 i) (w0 : World) :
    Calls Try.prog 7 #[.agg (encI i)] w0 (RetSl w0 5 (putL i)) := by
  have hR := Own.start w0
  have hrep := hn.rep
  have hseg := hn.seg
  have brep := hi.rep
  have bseg := hi.seg
  go_enter Try.func7, Try.ntmps7
  go_upto_if 14 with (first
    | ((with_reducible apply wpList_box hR); exact rfl; exact rfl; clear hR; intro gi w hR; simp only [List.set_cons_succ, List.set_cons_zero])
    | ((with_reducible apply wpList_make hR zRow); exact rfl; clear hR; intro gr w hR; simp only [List.set_cons_succ, List.set_cons_zero])
    | ((with_reducible apply q_ls hR); exact rfl; ((with_reducible first | apply t_addr (fInst _ (by decide)) | apply t_addr (fRow _ (by decide)) | apply t_one tInt | apply t_one tWord | apply t_one tByte | apply t_one tBool | apply t_part tInst | apply t_part tRow) <;> (first | (apply EvC.gv; exact rfl; (with_reducible first | exact Imp.refl _ | (apply Imp.left; exact Imp.refl _) | (apply Imp.right; exact Imp.refl _) | (apply Imp.left; apply Imp.left; exact Imp.refl _))) | (apply EvC.now; exact rfl) | exact rfl | (with_reducible exact EvAll.nil) | (focus (repeat (first | apply EvAll.cons | exact EvAll.nil | (apply EvC.gv; exact rfl; (with_reducible first | exact Imp.refl _ | (apply Imp.left; exact Imp.refl _) | (apply Imp.right; exact Imp.refl _) | (apply Imp.left; apply Imp.left; exact Imp.refl _))) | (apply EvC.now; exact rfl))); done) | (first | apply ext_inst | apply ext_row) | (focus (repeat (first | apply List.Mem.head | apply List.Mem.tail))))); (simp only [List.set_cons_succ, List.set_cons_zero]; exact rfl); clear hR; intro w hR)
    | ((with_reducible apply wpList_box hR); exact rfl; exact rfl; clear hR; intro g w hR; simp only [List.set_cons_succ, List.set_cons_zero])
    | ((with_reducible apply wpList_make hR zInst); exact rfl; clear hR; intro g w hR; simp only [List.set_cons_succ, List.set_cons_zero])
    | ((with_reducible apply wpList_make hR zRow); exact rfl; clear hR; intro g w hR; simp only [List.set_cons_succ, List.set_cons_zero])
    | ((with_reducible apply wpList_put hR tInst); exact rfl; exact rfl; exact rfl; (focus (repeat (first | apply List.Mem.head | apply List.Mem.tail))); apply put_inst; exact rfl; simp [encI]; apply one_inst; (focus (repeat (first | apply Upd.head | apply Upd.tail))); clear hR; intro w hR)
    | ((with_reducible apply wpList_put hR tRow); exact rfl; exact rfl; exact rfl; (focus (repeat (first | apply List.Mem.head | apply List.Mem.tail))); apply put_row; exact rfl; simp [encR]; apply one_row; (focus (repeat (first | apply Upd.head | apply Upd.tail))); clear hR; intro w hR)
    | ((with_reducible apply wpList_built); exact rfl; exact rfl; (first | exact bInst1 _ | exact bInst2 _ _ | exact bInst3 _ _ | exact bRow0); (simp only [List.set_cons_succ, List.set_cons_zero]; exact rfl))
    | ((with_reducible apply wpList_buildS hR); exact rfl; exact rfl; (first | exact bS0 | exact bS1 _); clear hR; intro g w hR; simp only [List.set_cons_succ, List.set_cons_zero])
    | ((with_reducible apply wpList_appS hR tBytes); exact rfl; exact rfl; exact rfl; (focus (repeat (first | apply Del.head | apply Del.tail))); (focus (repeat (first | apply List.Mem.head | apply List.Mem.tail))); exact hS; exact SlIs.all rfl (by decide); (focus simp [Value.oneCell']); omega; clear hR hS; intro g cur cap w hR hS; simp only [List.set_cons_succ, List.set_cons_zero])
    | (go_at_call 12; refine (rowR5_any i hi _).mono ?_; rintro e w' ⟨rfl, hb⟩; replace hR := hR.grow hb; clear hb))
  have hS : SlIs (#[] : Array Value) 0 0 [] := SlIs.all rfl (by decide)
  go_cut [5] (OutIs w0 (lockV i) 1 [(gr, encR i.row, 41), (gi, encI i, 24)])
  case first =>
    rcases Bool.eq_false_or_eq_true i.lock with hl | hl
    all_goals
      have HL := Lib.hid hl
      rw [hl]
      clear hl
      go_wp2_with (first
    | ((with_reducible apply wpList_box hR); exact rfl; exact rfl; clear hR; intro gi w hR; simp only [List.set_cons_succ, List.set_cons_zero])
    | ((with_reducible apply wpList_make hR zRow); exact rfl; clear hR; intro gr w hR; simp only [List.set_cons_succ, List.set_cons_zero])
    | ((with_reducible apply q_ls hR); exact rfl; ((with_reducible first | apply t_addr (fInst _ (by decide)) | apply t_addr (fRow _ (by decide)) | apply t_one tInt | apply t_one tWord | apply t_one tByte | apply t_one tBool | apply t_part tInst | apply t_part tRow) <;> (first | (apply EvC.gv; exact rfl; (with_reducible first | exact Imp.refl _ | (apply Imp.left; exact Imp.refl _) | (apply Imp.right; exact Imp.refl _) | (apply Imp.left; apply Imp.left; exact Imp.refl _))) | (apply EvC.now; exact rfl) | exact rfl | (with_reducible exact EvAll.nil) | (focus (repeat (first | apply EvAll.cons | exact EvAll.nil | (apply EvC.gv; exact rfl; (with_reducible first | exact Imp.refl _ | (apply Imp.left; exact Imp.refl _) | (apply Imp.right; exact Imp.refl _) | (apply Imp.left; apply Imp.left; exact Imp.refl _))) | (apply EvC.now; exact rfl))); done) | (first | apply ext_inst | apply ext_row) | (focus (repeat (first | apply List.Mem.head | apply List.Mem.tail))))); (simp only [List.set_cons_succ, List.set_cons_zero]; exact rfl); clear hR; intro w hR)
    | ((with_reducible apply wpList_box hR); exact rfl; exact rfl; clear hR; intro g w hR; simp only [List.set_cons_succ, List.set_cons_zero])
    | ((with_reducible apply wpList_make hR zInst); exact rfl; clear hR; intro g w hR; simp only [List.set_cons_succ, List.set_cons_zero])
    | ((with_reducible apply wpList_make hR zRow); exact rfl; clear hR; intro g w hR; simp only [List.set_cons_succ, List.set_cons_zero])
    | ((with_reducible apply wpList_put hR tInst); exact rfl; exact rfl; exact rfl; (focus (repeat (first | apply List.Mem.head | apply List.Mem.tail))); apply put_inst; exact rfl; simp [encI]; apply one_inst; (focus (repeat (first | apply Upd.head | apply Upd.tail))); clear hR; intro w hR)
    | ((with_reducible apply wpList_put hR tRow); exact rfl; exact rfl; exact rfl; (focus (repeat (first | apply List.Mem.head | apply List.Mem.tail))); apply put_row; exact rfl; simp [encR]; apply one_row; (focus (repeat (first | apply Upd.head | apply Upd.tail))); clear hR; intro w hR)
    | ((with_reducible apply wpList_built); exact rfl; exact rfl; (first | exact bInst1 _ | exact bInst2 _ _ | exact bInst3 _ _ | exact bRow0); (simp only [List.set_cons_succ, List.set_cons_zero]; exact rfl))
    | ((with_reducible apply wpList_buildS hR); exact rfl; exact rfl; (first | exact bS0 | exact bS1 _); clear hR; intro g w hR; simp only [List.set_cons_succ, List.set_cons_zero])
    | ((with_reducible apply wpList_appS hR tBytes); exact rfl; exact rfl; exact rfl; (focus (repeat (first | apply Del.head | apply Del.tail))); (focus (repeat (first | apply List.Mem.head | apply List.Mem.tail))); exact hS; exact SlIs.all rfl (by decide); (focus simp [Value.oneCell']); omega; clear hR hS; intro g cur cap w hR hS; simp only [List.set_cons_succ, List.set_cons_zero]))
    all_goals
      go_meet
      exact ⟨_, _, _, _, rfl, by omega, hR.drop (by (focus (repeat (first | exact List.Sublist.slnil | apply List.Sublist.cons_cons | apply List.Sublist.cons)))), by unfold lockV; rw [HL.out]; exact hS⟩
  case rest =>
  clear hR hS
  obtain ⟨g, cur, cap, n, rfl, hn1, hR, hS⟩ := hcut
  go_upto_if 20 with (first
      | ((with_reducible apply wpList_box hR); exact rfl; exact rfl; clear hR; intro gi w hR; simp only [List.set_cons_succ, List.set_cons_zero])
      | ((with_reducible apply wpList_make hR zRow); exact rfl; clear hR; intro gr w hR; simp only [List.set_cons_succ, List.set_cons_zero])
      | ((with_reducible apply q_ls hR); exact rfl; ((with_reducible first | apply t_addr (fInst _ (by decide)) | apply t_addr (fRow _ (by decide)) | apply t_one tInt | apply t_one tWord | apply t_one tByte | apply t_one tBool | apply t_part tInst | apply t_part tRow) <;> (first | (apply EvC.gv; exact rfl; (with_reducible first | exact Imp.refl _ | (apply Imp.left; exact Imp.refl _) | (apply Imp.right; exact Imp.refl _) | (apply Imp.left; apply Imp.left; exact Imp.refl _))) | (apply EvC.now; exact rfl) | exact rfl | (with_reducible exact EvAll.nil) | (focus (repeat (first | apply EvAll.cons | exact EvAll.nil | (apply EvC.gv; exact rfl; (with_reducible first | exact Imp.refl _ | (apply Imp.left; exact Imp.refl _) | (apply Imp.right; exact Imp.refl _) | (apply Imp.left; apply Imp.left; exact Imp.refl _))) | (apply EvC.now; exact rfl))); done) | (first | apply ext_inst | apply ext_row) | (focus (repeat (first | apply List.Mem.head | apply List.Mem.tail))))); (simp only [List.set_cons_succ, List.set_cons_zero]; exact rfl); clear hR; intro w hR)
      | ((with_reducible apply wpList_box hR); exact rfl; exact rfl; clear hR; intro g w hR; simp only [List.set_cons_succ, List.set_cons_zero])
      | ((with_reducible apply wpList_make hR zInst); exact rfl; clear hR; intro g w hR; simp only [List.set_cons_succ, List.set_cons_zero])
      | ((with_reducible apply wpList_make hR zRow); exact rfl; clear hR; intro g w hR; simp only [List.set_cons_succ, List.set_cons_zero])
      | ((with_reducible apply wpList_put hR tInst); exact rfl; exact rfl; exact rfl; (focus (repeat (first | apply List.Mem.head | apply List.Mem.tail))); apply put_inst; exact rfl; simp [encI]; apply one_inst; (focus (repeat (first | apply Upd.head | apply Upd.tail))); clear hR; intro w hR)
      | ((with_reducible apply wpList_put hR tRow); exact rfl; exact rfl; exact rfl; (focus (repeat (first | apply List.Mem.head | apply List.Mem.tail))); apply put_row; exact rfl; simp [encR]; apply one_row; (focus (repeat (first | apply Upd.head | apply Upd.tail))); clear hR; intro w hR)
      | ((with_reducible apply wpList_built); exact rfl; exact rfl; (first | exact bInst1 _ | exact bInst2 _ _ | exact bInst3 _ _ | exact bRow0); (simp only [List.set_cons_succ, List.set_cons_zero]; exact rfl))
      | ((with_reducible apply wpList_buildS hR); exact rfl; exact rfl; (first | exact bS0 | exact bS1 _); clear hR; intro g w hR; simp only [List.set_cons_succ, List.set_cons_zero])
      | ((with_reducible apply wpList_appS hR tBytes); exact rfl; exact rfl; exact rfl; (focus (repeat (first | apply Del.head | apply Del.tail))); (focus (repeat (first | apply List.Mem.head | apply List.Mem.tail))); exact hS; exact SlIs.all rfl (by decide); (focus simp [Value.oneCell']); omega; clear hR hS; intro g cur cap w hR hS; simp only [List.set_cons_succ, List.set_cons_zero]))
  go_cut [5] (OutIs w0 (lockV i ++ repV i) 2 [(gr, encR i.row, 41), (gi, encI i, 24)])
  case first =>
    rcases Bool.eq_false_or_eq_true (decide (0 < i.rep)) with hl | hl
    all_goals
      have HL := Lib.hid hl
      rw [hl]
      have hl' := hl
      simp only [decide_eq_true_eq, decide_eq_false_iff_not] at hl'
      clear hl
      go_wp2_with (first
      | ((with_reducible apply wpList_box hR); exact rfl; exact rfl; clear hR; intro gi w hR; simp only [List.set_cons_succ, List.set_cons_zero])
      | ((with_reducible apply wpList_make hR zRow); exact rfl; clear hR; intro gr w hR; simp only [List.set_cons_succ, List.set_cons_zero])
      | ((with_reducible apply q_ls hR); exact rfl; ((with_reducible first | apply t_addr (fInst _ (by decide)) | apply t_addr (fRow _ (by decide)) | apply t_one tInt | apply t_one tWord | apply t_one tByte | apply t_one tBool | apply t_part tInst | apply t_part tRow) <;> (first | (apply EvC.gv; exact rfl; (with_reducible first | exact Imp.refl _ | (apply Imp.left; exact Imp.refl _) | (apply Imp.right; exact Imp.refl _) | (apply Imp.left; apply Imp.left; exact Imp.refl _))) | (apply EvC.now; exact rfl) | exact rfl | (with_reducible exact EvAll.nil) | (focus (repeat (first | apply EvAll.cons | exact EvAll.nil | (apply EvC.gv; exact rfl; (with_reducible first | exact Imp.refl _ | (apply Imp.left; exact Imp.refl _) | (apply Imp.right; exact Imp.refl _) | (apply Imp.left; apply Imp.left; exact Imp.refl _))) | (apply EvC.now; exact rfl))); done) | (first | apply ext_inst | apply ext_row) | (focus (repeat (first | apply List.Mem.head | apply List.Mem.tail))))); (simp only [List.set_cons_succ, List.set_cons_zero]; exact rfl); clear hR; intro w hR)
      | ((with_reducible apply wpList_box hR); exact rfl; exact rfl; clear hR; intro g w hR; simp only [List.set_cons_succ, List.set_cons_zero])
      | ((with_reducible apply wpList_make hR zInst); exact rfl; clear hR; intro g w hR; simp only [List.set_cons_succ, List.set_cons_zero])
      | ((with_reducible apply wpList_make hR zRow); exact rfl; clear hR; intro g w hR; simp only [List.set_cons_succ, List.set_cons_zero])
      | ((with_reducible apply wpList_put hR tInst); exact rfl; exact rfl; exact rfl; (focus (repeat (first | apply List.Mem.head | apply List.Mem.tail))); apply put_inst; exact rfl; simp [encI]; apply one_inst; (focus (repeat (first | apply Upd.head | apply Upd.tail))); clear hR; intro w hR)
      | ((with_reducible apply wpList_put hR tRow); exact rfl; exact rfl; exact rfl; (focus (repeat (first | apply List.Mem.head | apply List.Mem.tail))); apply put_row; exact rfl; simp [encR]; apply one_row; (focus (repeat (first | apply Upd.head | apply Upd.tail))); clear hR; intro w hR)
      | ((with_reducible apply wpList_built); exact rfl; exact rfl; (first | exact bInst1 _ | exact bInst2 _ _ | exact bInst3 _ _ | exact bRow0); (simp only [List.set_cons_succ, List.set_cons_zero]; exact rfl))
      | ((with_reducible apply wpList_buildS hR); exact rfl; exact rfl; (first | exact bS0 | exact bS1 _); clear hR; intro g w hR; simp only [List.set_cons_succ, List.set_cons_zero])
      | ((with_reducible apply wpList_appS hR tBytes); exact rfl; exact rfl; exact rfl; (focus (repeat (first | apply Del.head | apply Del.tail))); (focus (repeat (first | apply List.Mem.head | apply List.Mem.tail))); exact hS; exact SlIs.all rfl (by decide); (focus simp [Value.oneCell']); omega; clear hR hS; intro g cur cap w hR hS; simp only [List.set_cons_succ, List.set_cons_zero]))
      go_meet
      exact ⟨_, _, _, _, rfl, by omega, hR.drop (by (focus (repeat (first | exact List.Sublist.slnil | apply List.Sublist.cons_cons | apply List.Sublist.cons)))), by unfold repV; rw [HL.out]; first | exact hS | (rw [cond_false, List.append_nil]; exact hS)⟩
  case rest =>
  clear hR hS hn1
  obtain ⟨g, cur, cap, n, rfl, hn1, hR, hS⟩ := hcut
  go_upto_if 30 with (first
      | ((with_reducible apply wpList_box hR); exact rfl; exact rfl; clear hR; intro gi w hR; simp only [List.set_cons_succ, List.set_cons_zero])
      | ((with_reducible apply wpList_make hR zRow); exact rfl; clear hR; intro gr w hR; simp only [List.set_cons_succ, List.set_cons_zero])
      | ((with_reducible apply q_ls hR); exact rfl; ((with_reducible first | apply t_addr (fInst _ (by decide)) | apply t_addr (fRow _ (by decide)) | apply t_one tInt | apply t_one tWord | apply t_one tByte | apply t_one tBool | apply t_part tInst | apply t_part tRow) <;> (first | (apply EvC.gv; exact rfl; (with_reducible first | exact Imp.refl _ | (apply Imp.left; exact Imp.refl _) | (apply Imp.right; exact Imp.refl _) | (apply Imp.left; apply Imp.left; exact Imp.refl _))) | (apply EvC.now; exact rfl) | exact rfl | (with_reducible exact EvAll.nil) | (focus (repeat (first | apply EvAll.cons | exact EvAll.nil | (apply EvC.gv; exact rfl; (with_reducible first | exact Imp.refl _ | (apply Imp.left; exact Imp.refl _) | (apply Imp.right; exact Imp.refl _) | (apply Imp.left; apply Imp.left; exact Imp.refl _))) | (apply EvC.now; exact rfl))); done) | (first | apply ext_inst | apply ext_row) | (focus (repeat (first | apply List.Mem.head | apply List.Mem.tail))))); (simp only [List.set_cons_succ, List.set_cons_zero]; exact rfl); clear hR; intro w hR)
      | ((with_reducible apply wpList_box hR); exact rfl; exact rfl; clear hR; intro g w hR; simp only [List.set_cons_succ, List.set_cons_zero])
      | ((with_reducible apply wpList_make hR zInst); exact rfl; clear hR; intro g w hR; simp only [List.set_cons_succ, List.set_cons_zero])
      | ((with_reducible apply wpList_make hR zRow); exact rfl; clear hR; intro g w hR; simp only [List.set_cons_succ, List.set_cons_zero])
      | ((with_reducible apply wpList_put hR tInst); exact rfl; exact rfl; exact rfl; (focus (repeat (first | apply List.Mem.head | apply List.Mem.tail))); apply put_inst; exact rfl; simp [encI]; apply one_inst; (focus (repeat (first | apply Upd.head | apply Upd.tail))); clear hR; intro w hR)
      | ((with_reducible apply wpList_put hR tRow); exact rfl; exact rfl; exact rfl; (focus (repeat (first | apply List.Mem.head | apply List.Mem.tail))); apply put_row; exact rfl; simp [encR]; apply one_row; (focus (repeat (first | apply Upd.head | apply Upd.tail))); clear hR; intro w hR)
      | ((with_reducible apply wpList_built); exact rfl; exact rfl; (first | exact bInst1 _ | exact bInst2 _ _ | exact bInst3 _ _ | exact bRow0); (simp only [List.set_cons_succ, List.set_cons_zero]; exact rfl))
      | ((with_reducible apply wpList_buildS hR); exact rfl; exact rfl; (first | exact bS0 | exact bS1 _); clear hR; intro g w hR; simp only [List.set_cons_succ, List.set_cons_zero])
      | ((with_reducible apply wpList_appS hR tBytes); exact rfl; exact rfl; exact rfl; (focus (repeat (first | apply Del.head | apply Del.tail))); (focus (repeat (first | apply List.Mem.head | apply List.Mem.tail))); exact hS; exact SlIs.all rfl (by decide); (focus simp [Value.oneCell']); omega; clear hR hS; intro g cur cap w hR hS; simp only [List.set_cons_succ, List.set_cons_zero]))
  go_cut [5] (OutIs w0 (lockV i ++ repV i ++ segV i) 3 [(gr, encR i.row, 41), (gi, encI i, 24)])
  case first =>
    rcases Bool.eq_false_or_eq_true (decide (0 < i.seg)) with hl | hl
    all_goals
      have HL := Lib.hid hl
      rw [hl]
      have hl' := hl
      simp only [decide_eq_true_eq, decide_eq_false_iff_not] at hl'
      clear hl
      go_wp2_with (first
      | ((with_reducible apply wpList_box hR); exact rfl; exact rfl; clear hR; intro gi w hR; simp only [List.set_cons_succ, List.set_cons_zero])
      | ((with_reducible apply wpList_make hR zRow); exact rfl; clear hR; intro gr w hR; simp only [List.set_cons_succ, List.set_cons_zero])
      | ((with_reducible apply q_ls hR); exact rfl; ((with_reducible first | apply t_addr (fInst _ (by decide)) | apply t_addr (fRow _ (by decide)) | apply t_one tInt | apply t_one tWord | apply t_one tByte | apply t_one tBool | apply t_part tInst | apply t_part tRow) <;> (first | (apply EvC.gv; exact rfl; (with_reducible first | exact Imp.refl _ | (apply Imp.left; exact Imp.refl _) | (apply Imp.right; exact Imp.refl _) | (apply Imp.left; apply Imp.left; exact Imp.refl _))) | (apply EvC.now; exact rfl) | exact rfl | (with_reducible exact EvAll.nil) | (focus (repeat (first | apply EvAll.cons | exact EvAll.nil | (apply EvC.gv; exact rfl; (with_reducible first | exact Imp.refl _ | (apply Imp.left; exact Imp.refl _) | (apply Imp.right; exact Imp.refl _) | (apply Imp.left; apply Imp.left; exact Imp.refl _))) | (apply EvC.now; exact rfl))); done) | (first | apply ext_inst | apply ext_row) | (focus (repeat (first | apply List.Mem.head | apply List.Mem.tail))))); (simp only [List.set_cons_succ, List.set_cons_zero]; exact rfl); clear hR; intro w hR)
      | ((with_reducible apply wpList_box hR); exact rfl; exact rfl; clear hR; intro g w hR; simp only [List.set_cons_succ, List.set_cons_zero])
      | ((with_reducible apply wpList_make hR zInst); exact rfl; clear hR; intro g w hR; simp only [List.set_cons_succ, List.set_cons_zero])
      | ((with_reducible apply wpList_make hR zRow); exact rfl; clear hR; intro g w hR; simp only [List.set_cons_succ, List.set_cons_zero])
      | ((with_reducible apply wpList_put hR tInst); exact rfl; exact rfl; exact rfl; (focus (repeat (first | apply List.Mem.head | apply List.Mem.tail))); apply put_inst; exact rfl; simp [encI]; apply one_inst; (focus (repeat (first | apply Upd.head | apply Upd.tail))); clear hR; intro w hR)
      | ((with_reducible apply wpList_put hR tRow); exact rfl; exact rfl; exact rfl; (focus (repeat (first | apply List.Mem.head | apply List.Mem.tail))); apply put_row; exact rfl; simp [encR]; apply one_row; (focus (repeat (first | apply Upd.head | apply Upd.tail))); clear hR; intro w hR)
      | ((with_reducible apply wpList_built); exact rfl; exact rfl; (first | exact bInst1 _ | exact bInst2 _ _ | exact bInst3 _ _ | exact bRow0); (simp only [List.set_cons_succ, List.set_cons_zero]; exact rfl))
      | ((with_reducible apply wpList_buildS hR); exact rfl; exact rfl; (first | exact bS0 | exact bS1 _); clear hR; intro g w hR; simp only [List.set_cons_succ, List.set_cons_zero])
      | ((with_reducible apply wpList_appS hR tBytes); exact rfl; exact rfl; exact rfl; (focus (repeat (first | apply Del.head | apply Del.tail))); (focus (repeat (first | apply List.Mem.head | apply List.Mem.tail))); exact hS; exact SlIs.all rfl (by decide); (focus simp [Value.oneCell']); omega; clear hR hS; intro g cur cap w hR hS; simp only [List.set_cons_succ, List.set_cons_zero]))
      go_meet
      exact ⟨_, _, _, _, rfl, by omega, hR.drop (by (focus (repeat (first | exact List.Sublist.slnil | apply List.Sublist.cons_cons | apply List.Sublist.cons)))), by unfold segV; rw [HL.out]; first | exact hS | (rw [cond_false, List.append_nil]; exact hS)⟩
  case rest =>
  clear hR hS hn1
  obtain ⟨g, cur, cap, n, rfl, hn1, hR, hS⟩ := hcut
  have hd := dispsZ_bd i.mod i.rm
  go_upto_if 45 with (first
    | ((with_reducible apply wpList_box hR); exact rfl; exact rfl; clear hR; intro gi w hR; simp only [List.set_cons_succ, List.set_cons_zero])
    | ((with_reducible apply wpList_make hR zRow); exact rfl; clear hR; intro gr w hR; simp only [List.set_cons_succ, List.set_cons_zero])
    | ((with_reducible apply q_ls hR); exact rfl; ((with_reducible first | apply t_addr (fInst _ (by decide)) | apply t_addr (fRow _ (by decide)) | apply t_one tInt | apply t_one tWord | apply t_one tByte | apply t_one tBool | apply t_part tInst | apply t_part tRow) <;> (first | (apply EvC.gv; exact rfl; (with_reducible first | exact Imp.refl _ | (apply Imp.left; exact Imp.refl _) | (apply Imp.right; exact Imp.refl _) | (apply Imp.left; apply Imp.left; exact Imp.refl _))) | (apply EvC.now; exact rfl) | exact rfl | (with_reducible exact EvAll.nil) | (focus (repeat (first | apply EvAll.cons | exact EvAll.nil | (apply EvC.gv; exact rfl; (with_reducible first | exact Imp.refl _ | (apply Imp.left; exact Imp.refl _) | (apply Imp.right; exact Imp.refl _) | (apply Imp.left; apply Imp.left; exact Imp.refl _))) | (apply EvC.now; exact rfl))); done) | (first | apply ext_inst | apply ext_row) | (focus (repeat (first | apply List.Mem.head | apply List.Mem.tail))))); (simp only [List.set_cons_succ, List.set_cons_zero]; exact rfl); clear hR; intro w hR)
    | ((with_reducible apply wpList_box hR); exact rfl; exact rfl; clear hR; intro g w hR; simp only [List.set_cons_succ, List.set_cons_zero])
    | ((with_reducible apply wpList_make hR zInst); exact rfl; clear hR; intro g w hR; simp only [List.set_cons_succ, List.set_cons_zero])
    | ((with_reducible apply wpList_make hR zRow); exact rfl; clear hR; intro g w hR; simp only [List.set_cons_succ, List.set_cons_zero])
    | ((with_reducible apply wpList_put hR tInst); exact rfl; exact rfl; exact rfl; (focus (repeat (first | apply List.Mem.head | apply List.Mem.tail))); apply put_inst; exact rfl; simp [encI]; apply one_inst; (focus (repeat (first | apply Upd.head | apply Upd.tail))); clear hR; intro w hR)
    | ((with_reducible apply wpList_put hR tRow); exact rfl; exact rfl; exact rfl; (focus (repeat (first | apply List.Mem.head | apply List.Mem.tail))); apply put_row; exact rfl; simp [encR]; apply one_row; (focus (repeat (first | apply Upd.head | apply Upd.tail))); clear hR; intro w hR)
    | ((with_reducible apply wpList_built); exact rfl; exact rfl; (first | exact bInst1 _ | exact bInst2 _ _ | exact bInst3 _ _ | exact bRow0); (simp only [List.set_cons_succ, List.set_cons_zero]; exact rfl))
    | ((with_reducible apply wpList_buildS hR); exact rfl; exact rfl; (first | exact bS0 | exact bS1 _); clear hR; intro g w hR; simp only [List.set_cons_succ, List.set_cons_zero])
    | ((with_reducible apply wpList_appS hR tBytes); exact rfl; exact rfl; exact rfl; (focus (repeat (first | apply Del.head | apply Del.tail))); (focus (repeat (first | apply List.Mem.head | apply List.Mem.tail))); exact hS; exact SlIs.all rfl (by decide); (focus simp [Value.oneCell']); omega; clear hR hS; intro g cur cap w hR hS; simp only [List.set_cons_succ, List.set_cons_zero]))
  rw [show (#[Value.int .u8 i.op] : Array Value).toList = [b8 i.op] from rfl] at hS
  go_cut [5] (OutIs w0 (lockV i ++ repV i ++ segV i ++ [b8 i.op] ++ midV i) 8 [(gr, encR i.row, 41), (gi, encI i, 24)])
  case first =>
    rcases Bool.eq_false_or_eq_true i.row.m with hl | hl
    · have HL := Lib.hid hl
      obtain ⟨b1, b2, b3⟩ := hn.mid hl
      rw [hl]
      clear hl
      go_upto_region 12 with (first
    | ((with_reducible apply wpList_box hR); exact rfl; exact rfl; clear hR; intro gi w hR; simp only [List.set_cons_succ, List.set_cons_zero])
    | ((with_reducible apply wpList_make hR zRow); exact rfl; clear hR; intro gr w hR; simp only [List.set_cons_succ, List.set_cons_zero])
    | ((with_reducible apply q_ls hR); exact rfl; ((with_reducible first | apply t_addr (fInst _ (by decide)) | apply t_addr (fRow _ (by decide)) | apply t_one tInt | apply t_one tWord | apply t_one tByte | apply t_one tBool | apply t_part tInst | apply t_part tRow) <;> (first | (apply EvC.gv; exact rfl; (with_reducible first | exact Imp.refl _ | (apply Imp.left; exact Imp.refl _) | (apply Imp.right; exact Imp.refl _) | (apply Imp.left; apply Imp.left; exact Imp.refl _))) | (apply EvC.now; exact rfl) | exact rfl | (with_reducible exact EvAll.nil) | (focus (repeat (first | apply EvAll.cons | exact EvAll.nil | (apply EvC.gv; exact rfl; (with_reducible first | exact Imp.refl _ | (apply Imp.left; exact Imp.refl _) | (apply Imp.right; exact Imp.refl _) | (apply Imp.left; apply Imp.left; exact Imp.refl _))) | (apply EvC.now; exact rfl))); done) | (first | apply ext_inst | apply ext_row) | (focus (repeat (first | apply List.Mem.head | apply List.Mem.tail))))); (simp only [List.set_cons_succ, List.set_cons_zero]; exact rfl); clear hR; intro w hR)
    | ((with_reducible apply wpList_box hR); exact rfl; exact rfl; clear hR; intro g w hR; simp only [List.set_cons_succ, List.set_cons_zero])
    | ((with_reducible apply wpList_make hR zInst); exact rfl; clear hR; intro g w hR; simp only [List.set_cons_succ, List.set_cons_zero])
    | ((with_reducible apply wpList_make hR zRow); exact rfl; clear hR; intro g w hR; simp only [List.set_cons_succ, List.set_cons_zero])
    | ((with_reducible apply wpList_put hR tInst); exact rfl; exact rfl; exact rfl; (focus (repeat (first | apply List.Mem.head | apply List.Mem.tail))); apply put_inst; exact rfl; simp [encI]; apply one_inst; (focus (repeat (first | apply Upd.head | apply Upd.tail))); clear hR; intro w hR)
    | ((with_reducible apply wpList_put hR tRow); exact rfl; exact rfl; exact rfl; (focus (repeat (first | apply List.Mem.head | apply List.Mem.tail))); apply put_row; exact rfl; simp [encR]; apply one_row; (focus (repeat (first | apply Upd.head | apply Upd.tail))); clear hR; intro w hR)
    | ((with_reducible apply wpList_built); exact rfl; exact rfl; (first | exact bInst1 _ | exact bInst2 _ _ | exact bInst3 _ _ | exact bRow0); (simp only [List.set_cons_succ, List.set_cons_zero]; exact rfl))
    | ((with_reducible apply wpList_buildS hR); exact rfl; exact rfl; (first | exact bS0 | exact bS1 _); clear hR; intro g w hR; simp only [List.set_cons_succ, List.set_cons_zero])
    | ((with_reducible apply wpList_appS hR tBytes); exact rfl; exact rfl; exact rfl; (focus (repeat (first | apply Del.head | apply Del.tail))); (focus (repeat (first | apply List.Mem.head | apply List.Mem.tail))); exact hS; exact SlIs.all rfl (by decide); (focus simp [Value.oneCell']); omega; clear hR hS; intro g cur cap w hR hS; simp only [List.set_cons_succ, List.set_cons_zero]))
      refine wp_region_some hR [(gr, encR i.row, 41), (gi, encI i, 24)] (by (focus (repeat (first | exact List.Sublist.slnil | apply List.Sublist.cons_cons | apply List.Sublist.cons)))) [0, 1, 2, 4, 5, 6, 7] 5 (by kernel_rfl) (by kernel_rfl) (by kernel_rfl) rfl ?_
      clear hR; intro hR
      repeat (refine wpT_step rfl ?_; first
    | ((first | (with_reducible apply q_pl) | ((with_reducible apply q_gd); (first | (apply GdBy.gt; exact rfl; exact rfl) | (apply GdBy.gf; exact rfl; exact rfl) | (apply GdBy.t; exact rfl; exact rfl) | (apply GdBy.f; exact rfl; exact rfl)))); (first | ((with_reducible first | apply t_move | apply t_assign | apply t_and | apply t_or | apply t_cmp | apply t_not | apply t_addr (fInst _ (by decide)) | apply t_addr (fRow _ (by decide)) | apply t_one tInt | apply t_one tWord | apply t_one tByte | apply t_one tBool | apply t_part tInst | apply t_part tRow) <;> (first | (apply EvC.gv; exact rfl; (with_reducible first | exact Imp.refl _ | (apply Imp.left; exact Imp.refl _) | (apply Imp.right; exact Imp.refl _) | (apply Imp.left; apply Imp.left; exact Imp.refl _))) | (apply EvC.now; exact rfl) | exact rfl | (with_reducible exact EvAll.nil) | (focus (repeat (first | apply EvAll.cons | exact EvAll.nil | (apply EvC.gv; exact rfl; (with_reducible first | exact Imp.refl _ | (apply Imp.left; exact Imp.refl _) | (apply Imp.right; exact Imp.refl _) | (apply Imp.left; apply Imp.left; exact Imp.refl _))) | (apply EvC.now; exact rfl))); done) | (first | apply ext_inst | apply ext_row) | (focus (repeat (first | apply List.Mem.head | apply List.Mem.tail)))))); (simp only [List.set_cons_succ, List.set_cons_zero]; exact rfl))
    | ((with_reducible apply q_gd); (first | (apply GdBy.gt; exact rfl; exact rfl) | (apply GdBy.gf; exact rfl; exact rfl) | (apply GdBy.t; exact rfl; exact rfl) | (apply GdBy.f; exact rfl; exact rfl)); ((with_reducible apply t_num) <;> (first | (apply EvC.gv; exact rfl; (with_reducible first | exact Imp.refl _ | (apply Imp.left; exact Imp.refl _) | (apply Imp.right; exact Imp.refl _) | (apply Imp.left; apply Imp.left; exact Imp.refl _))) | (apply EvC.now; exact rfl) | exact rfl | (with_reducible exact EvAll.nil) | (focus (repeat (first | apply EvAll.cons | exact EvAll.nil | (apply EvC.gv; exact rfl; (with_reducible first | exact Imp.refl _ | (apply Imp.left; exact Imp.refl _) | (apply Imp.right; exact Imp.refl _) | (apply Imp.left; apply Imp.left; exact Imp.refl _))) | (apply EvC.now; exact rfl))); done) | (first | apply ext_inst | apply ext_row) | (focus (repeat (first | apply List.Mem.head | apply List.Mem.tail))))); (simp only [List.set_cons_succ, List.set_cons_zero]; exact rfl))
    | ((with_reducible apply wpT1_gpure); (first | (apply GdBy.gt; exact rfl; exact rfl) | (apply GdBy.gf; exact rfl; exact rfl) | (apply GdBy.t; exact rfl; exact rfl) | (apply GdBy.f; exact rfl; exact rfl)); intro K hK; go_simp; refine hK _ ?_; clear hK K; simp only [List.set_cons_succ, List.set_cons_zero])
    | ((with_reducible apply wpT1_pure); exact rfl; intro K hK; go_simp; refine hK _ ?_; clear hK K; simp only [List.set_cons_succ, List.set_cons_zero]))
      refine wpG_callS hR (i := 3) (by kernel_rfl) Try.call17 rfl rfl (fun w1 => RetTwo w1 (i.disp % 256) (i.disp / 256)) (fun w1 => two5_any _ w1 hi.disp.1 hi.disp.2) ?_
      clear hR
      rintro w1 en w2 hR1 ⟨gt, rfl, hO⟩
      have hR := hR1.join hO
      clear hR1 hO
      refine ⟨_, rfl, hR.drop (by (focus (repeat (first | exact List.Sublist.slnil | apply List.Sublist.cons_cons | apply List.Sublist.cons)))), ?_⟩
      simp only [List.set_cons_succ, List.set_cons_zero]
      refine wpG_callS hR (i := 8) (by kernel_rfl) Try.call13 rfl rfl (fun w1 en w' => en = .returned (.int .i64 (dispsZ i.mod i.rm)) ∧ w1 = w') (fun w1 => dispsR_any _ _ w1) ?_
      clear hR
      rintro w1 en w' hR ⟨rfl, rfl⟩
      refine ⟨_, rfl, hR.drop (by (focus (repeat (first | exact List.Sublist.slnil | apply List.Sublist.cons_cons | apply List.Sublist.cons)))), ?_⟩
      simp only [List.set_cons_succ, List.set_cons_zero]
      refine wpG_firstS hR tBytes (i := 9) (k := (dispsZ i.mod i.rm).toNat) (by kernel_rfl) rfl rfl rfl (by omega) (by omega) (by simp only [List.set_cons_succ, List.set_cons_zero]; exact rfl) ?_
      clear hR; intro w hR
      refine wpG_appS hR tBytes (i := 10) (by kernel_rfl) rfl rfl rfl (by (focus (repeat (first | apply Del.head | apply Del.tail)))) (by (focus (repeat (first | apply List.Mem.head | apply List.Mem.tail)))) hS (SlIs.first (by omega)) (ones_two _ _ _) (by omega) (by (focus (repeat (first | exact List.Sublist.slnil | apply List.Sublist.cons_cons | apply List.Sublist.cons)))) ?_
      clear hR hS; intro g cur cap w hR hS
      simp only [List.set_cons_succ, List.set_cons_zero]
      refine wpG_slot hR (i := 11) (by kernel_rfl) rfl rfl (by simp only [List.set_cons_succ, List.set_cons_zero]; exact rfl) ?_
      clear hR; intro w hR
      refine wpG_end hR (by kernel_rfl) ?_
      clear hR; intro w hR
      go_wp2
      go_meet
      exact ⟨_, _, _, _, rfl, by omega, hR.drop (by (focus (repeat (first | exact List.Sublist.slnil | apply List.Sublist.cons_cons | apply List.Sublist.cons)))), hS.cast (by unfold midV midZ twoV; rw [HL.out]; simp [b8])⟩
    · have HL := Lib.hid hl
      rw [hl]
      clear hl
      go_wp2
      go_meet
      exact ⟨_, _, _, _, rfl, by omega, hR.drop (by (focus (repeat (first | exact List.Sublist.slnil | apply List.Sublist.cons_cons | apply List.Sublist.cons)))), hS.cast (by unfold midV; rw [HL.out]; simp)⟩
  case rest =>
  clear hR hS hn1
  obtain ⟨g, cur, cap, n, rfl, hn1, hR, hS⟩ := hcut
  have hb := immsZ_bd i.row
  go_upto_region 15 with (first
    | ((with_reducible apply wpList_box hR); exact rfl; exact rfl; clear hR; intro gi w hR; simp only [List.set_cons_succ, List.set_cons_zero])
    | ((with_reducible apply wpList_make hR zRow); exact rfl; clear hR; intro gr w hR; simp only [List.set_cons_succ, List.set_cons_zero])
    | ((with_reducible apply q_ls hR); exact rfl; ((with_reducible first | apply t_addr (fInst _ (by decide)) | apply t_addr (fRow _ (by decide)) | apply t_one tInt | apply t_one tWord | apply t_one tByte | apply t_one tBool | apply t_part tInst | apply t_part tRow) <;> (first | (apply EvC.gv; exact rfl; (with_reducible first | exact Imp.refl _ | (apply Imp.left; exact Imp.refl _) | (apply Imp.right; exact Imp.refl _) | (apply Imp.left; apply Imp.left; exact Imp.refl _))) | (apply EvC.now; exact rfl) | exact rfl | (with_reducible exact EvAll.nil) | (focus (repeat (first | apply EvAll.cons | exact EvAll.nil | (apply EvC.gv; exact rfl; (with_reducible first | exact Imp.refl _ | (apply Imp.left; exact Imp.refl _) | (apply Imp.right; exact Imp.refl _) | (apply Imp.left; apply Imp.left; exact Imp.refl _))) | (apply EvC.now; exact rfl))); done) | (first | apply ext_inst | apply ext_row) | (focus (repeat (first | apply List.Mem.head | apply List.Mem.tail))))); (simp only [List.set_cons_succ, List.set_cons_zero]; exact rfl); clear hR; intro w hR)
    | ((with_reducible apply wpList_box hR); exact rfl; exact rfl; clear hR; intro g w hR; simp only [List.set_cons_succ, List.set_cons_zero])
    | ((with_reducible apply wpList_make hR zInst); exact rfl; clear hR; intro g w hR; simp only [List.set_cons_succ, List.set_cons_zero])
    | ((with_reducible apply wpList_make hR zRow); exact rfl; clear hR; intro g w hR; simp only [List.set_cons_succ, List.set_cons_zero])
    | ((with_reducible apply wpList_put hR tInst); exact rfl; exact rfl; exact rfl; (focus (repeat (first | apply List.Mem.head | apply List.Mem.tail))); apply put_inst; exact rfl; simp [encI]; apply one_inst; (focus (repeat (first | apply Upd.head | apply Upd.tail))); clear hR; intro w hR)
    | ((with_reducible apply wpList_put hR tRow); exact rfl; exact rfl; exact rfl; (focus (repeat (first | apply List.Mem.head | apply List.Mem.tail))); apply put_row; exact rfl; simp [encR]; apply one_row; (focus (repeat (first | apply Upd.head | apply Upd.tail))); clear hR; intro w hR)
    | ((with_reducible apply wpList_built); exact rfl; exact rfl; (first | exact bInst1 _ | exact bInst2 _ _ | exact bInst3 _ _ | exact bRow0); (simp only [List.set_cons_succ, List.set_cons_zero]; exact rfl))
    | ((with_reducible apply wpList_buildS hR); exact rfl; exact rfl; (first | exact bS0 | exact bS1 _); clear hR; intro g w hR; simp only [List.set_cons_succ, List.set_cons_zero])
    | ((with_reducible apply wpList_appS hR tBytes); exact rfl; exact rfl; exact rfl; (focus (repeat (first | apply Del.head | apply Del.tail))); (focus (repeat (first | apply List.Mem.head | apply List.Mem.tail))); exact hS; exact SlIs.all rfl (by decide); (focus simp [Value.oneCell']); omega; clear hR hS; intro g cur cap w hR hS; simp only [List.set_cons_succ, List.set_cons_zero])
    | (go_at_call 18; refine (immsR_any _ _).mono ?_; rintro e w' ⟨rfl, hb⟩; replace hR := hR.grow hb; clear hb))
  by_cases e1 : immsZ i.row = 1
  · have HI : Hid (immV i = (twoV i.imm).take 1) := Lib.hid (by unfold immV; rw [e1]; rfl)
    rw [e1]
    clear e1 hb
    go_wp2_with (first
    | (go_at_call 17; refine (two5_any _ _ hi.imm.1 hi.imm.2).mono ?_; rintro e w' ⟨gt, rfl, hO⟩; replace hR := hR.join hO; clear hO)
    | ((with_reducible apply wpList_firstS tBytes (k := 1)); exact rfl; exact rfl; exact rfl; exact rfl; decide; (simp only [List.set_cons_succ, List.set_cons_zero]; exact rfl))
    | ((with_reducible apply wpList_appS hR tBytes); exact rfl; exact rfl; exact rfl; (focus (repeat (first | apply Del.head | apply Del.tail))); (focus (repeat (first | apply List.Mem.head | apply List.Mem.tail))); exact hS; exact SlIs.first (by decide); (focus simp [Value.oneCell']); omega; clear hR hS; intro g cur cap w hR hS; simp only [List.set_cons_succ, List.set_cons_zero])
    | ((with_reducible apply wpList_box hR); exact rfl; exact rfl; clear hR; intro gi w hR; simp only [List.set_cons_succ, List.set_cons_zero])
    | ((with_reducible apply wpList_make hR zRow); exact rfl; clear hR; intro gr w hR; simp only [List.set_cons_succ, List.set_cons_zero])
    | ((with_reducible apply q_ls hR); exact rfl; ((with_reducible first | apply t_addr (fInst _ (by decide)) | apply t_addr (fRow _ (by decide)) | apply t_one tInt | apply t_one tWord | apply t_one tByte | apply t_one tBool | apply t_part tInst | apply t_part tRow) <;> (first | (apply EvC.gv; exact rfl; (with_reducible first | exact Imp.refl _ | (apply Imp.left; exact Imp.refl _) | (apply Imp.right; exact Imp.refl _) | (apply Imp.left; apply Imp.left; exact Imp.refl _))) | (apply EvC.now; exact rfl) | exact rfl | (with_reducible exact EvAll.nil) | (focus (repeat (first | apply EvAll.cons | exact EvAll.nil | (apply EvC.gv; exact rfl; (with_reducible first | exact Imp.refl _ | (apply Imp.left; exact Imp.refl _) | (apply Imp.right; exact Imp.refl _) | (apply Imp.left; apply Imp.left; exact Imp.refl _))) | (apply EvC.now; exact rfl))); done) | (first | apply ext_inst | apply ext_row) | (focus (repeat (first | apply List.Mem.head | apply List.Mem.tail))))); (simp only [List.set_cons_succ, List.set_cons_zero]; exact rfl); clear hR; intro w hR)
    | ((with_reducible apply wpList_box hR); exact rfl; exact rfl; clear hR; intro g w hR; simp only [List.set_cons_succ, List.set_cons_zero])
    | ((with_reducible apply wpList_make hR zInst); exact rfl; clear hR; intro g w hR; simp only [List.set_cons_succ, List.set_cons_zero])
    | ((with_reducible apply wpList_make hR zRow); exact rfl; clear hR; intro g w hR; simp only [List.set_cons_succ, List.set_cons_zero])
    | ((with_reducible apply wpList_put hR tInst); exact rfl; exact rfl; exact rfl; (focus (repeat (first | apply List.Mem.head | apply List.Mem.tail))); apply put_inst; exact rfl; simp [encI]; apply one_inst; (focus (repeat (first | apply Upd.head | apply Upd.tail))); clear hR; intro w hR)
    | ((with_reducible apply wpList_put hR tRow); exact rfl; exact rfl; exact rfl; (focus (repeat (first | apply List.Mem.head | apply List.Mem.tail))); apply put_row; exact rfl; simp [encR]; apply one_row; (focus (repeat (first | apply Upd.head | apply Upd.tail))); clear hR; intro w hR)
    | ((with_reducible apply wpList_built); exact rfl; exact rfl; (first | exact bInst1 _ | exact bInst2 _ _ | exact bInst3 _ _ | exact bRow0); (simp only [List.set_cons_succ, List.set_cons_zero]; exact rfl))
    | ((with_reducible apply wpList_buildS hR); exact rfl; exact rfl; (first | exact bS0 | exact bS1 _); clear hR; intro g w hR; simp only [List.set_cons_succ, List.set_cons_zero])
    | ((with_reducible apply wpList_appS hR tBytes); exact rfl; exact rfl; exact rfl; (focus (repeat (first | apply Del.head | apply Del.tail))); (focus (repeat (first | apply List.Mem.head | apply List.Mem.tail))); exact hS; exact SlIs.all rfl (by decide); (focus simp [Value.oneCell']); omega; clear hR hS; intro g cur cap w hR hS; simp only [List.set_cons_succ, List.set_cons_zero]))
    go_ret
    obtain ⟨_, h2, h3⟩ := put_fin HI.out hS (by simp only [List.append_assoc]; rfl)
    exact retSl_of rfl h2 (hR.drop (by (focus (repeat (first | exact List.Sublist.slnil | apply List.Sublist.cons_cons | apply List.Sublist.cons))))) h3
  by_cases e2 : immsZ i.row = 2
  · have HI : Hid (immV i = twoV i.imm) := Lib.hid (by unfold immV; rw [e2]; rfl)
    rw [e2]
    clear e1 e2 hb
    go_wp2_with (first
    | (go_at_call 17; refine (two5_any _ _ hi.imm.1 hi.imm.2).mono ?_; rintro e w' ⟨gt, rfl, hO⟩; replace hR := hR.join hO; clear hO)
    | ((with_reducible apply wpList_firstS tBytes (k := 2)); exact rfl; exact rfl; exact rfl; exact rfl; decide; (simp only [List.set_cons_succ, List.set_cons_zero]; exact rfl))
    | ((with_reducible apply wpList_appS hR tBytes); exact rfl; exact rfl; exact rfl; (focus (repeat (first | apply Del.head | apply Del.tail))); (focus (repeat (first | apply List.Mem.head | apply List.Mem.tail))); exact hS; exact SlIs.all rfl (by decide); (focus simp [Value.oneCell']); omega; clear hR hS; intro g cur cap w hR hS; simp only [List.set_cons_succ, List.set_cons_zero])
    | ((with_reducible apply wpList_box hR); exact rfl; exact rfl; clear hR; intro gi w hR; simp only [List.set_cons_succ, List.set_cons_zero])
    | ((with_reducible apply wpList_make hR zRow); exact rfl; clear hR; intro gr w hR; simp only [List.set_cons_succ, List.set_cons_zero])
    | ((with_reducible apply q_ls hR); exact rfl; ((with_reducible first | apply t_addr (fInst _ (by decide)) | apply t_addr (fRow _ (by decide)) | apply t_one tInt | apply t_one tWord | apply t_one tByte | apply t_one tBool | apply t_part tInst | apply t_part tRow) <;> (first | (apply EvC.gv; exact rfl; (with_reducible first | exact Imp.refl _ | (apply Imp.left; exact Imp.refl _) | (apply Imp.right; exact Imp.refl _) | (apply Imp.left; apply Imp.left; exact Imp.refl _))) | (apply EvC.now; exact rfl) | exact rfl | (with_reducible exact EvAll.nil) | (focus (repeat (first | apply EvAll.cons | exact EvAll.nil | (apply EvC.gv; exact rfl; (with_reducible first | exact Imp.refl _ | (apply Imp.left; exact Imp.refl _) | (apply Imp.right; exact Imp.refl _) | (apply Imp.left; apply Imp.left; exact Imp.refl _))) | (apply EvC.now; exact rfl))); done) | (first | apply ext_inst | apply ext_row) | (focus (repeat (first | apply List.Mem.head | apply List.Mem.tail))))); (simp only [List.set_cons_succ, List.set_cons_zero]; exact rfl); clear hR; intro w hR)
    | ((with_reducible apply wpList_box hR); exact rfl; exact rfl; clear hR; intro g w hR; simp only [List.set_cons_succ, List.set_cons_zero])
    | ((with_reducible apply wpList_make hR zInst); exact rfl; clear hR; intro g w hR; simp only [List.set_cons_succ, List.set_cons_zero])
    | ((with_reducible apply wpList_make hR zRow); exact rfl; clear hR; intro g w hR; simp only [List.set_cons_succ, List.set_cons_zero])
    | ((with_reducible apply wpList_put hR tInst); exact rfl; exact rfl; exact rfl; (focus (repeat (first | apply List.Mem.head | apply List.Mem.tail))); apply put_inst; exact rfl; simp [encI]; apply one_inst; (focus (repeat (first | apply Upd.head | apply Upd.tail))); clear hR; intro w hR)
    | ((with_reducible apply wpList_put hR tRow); exact rfl; exact rfl; exact rfl; (focus (repeat (first | apply List.Mem.head | apply List.Mem.tail))); apply put_row; exact rfl; simp [encR]; apply one_row; (focus (repeat (first | apply Upd.head | apply Upd.tail))); clear hR; intro w hR)
    | ((with_reducible apply wpList_built); exact rfl; exact rfl; (first | exact bInst1 _ | exact bInst2 _ _ | exact bInst3 _ _ | exact bRow0); (simp only [List.set_cons_succ, List.set_cons_zero]; exact rfl))
    | ((with_reducible apply wpList_buildS hR); exact rfl; exact rfl; (first | exact bS0 | exact bS1 _); clear hR; intro g w hR; simp only [List.set_cons_succ, List.set_cons_zero])
    | ((with_reducible apply wpList_appS hR tBytes); exact rfl; exact rfl; exact rfl; (focus (repeat (first | apply Del.head | apply Del.tail))); (focus (repeat (first | apply List.Mem.head | apply List.Mem.tail))); exact hS; exact SlIs.all rfl (by decide); (focus simp [Value.oneCell']); omega; clear hR hS; intro g cur cap w hR hS; simp only [List.set_cons_succ, List.set_cons_zero]))
    go_ret
    obtain ⟨_, h2, h3⟩ := put_fin HI.out hS (by simp only [List.append_assoc]; rfl)
    exact retSl_of rfl h2 (hR.drop (by (focus (repeat (first | exact List.Sublist.slnil | apply List.Sublist.cons_cons | apply List.Sublist.cons))))) h3
  by_cases e4 : immsZ i.row = 4
  · have HI : Hid (immV i = twoV i.imm ++ twoV i.sel) := Lib.hid (by unfold immV; rw [e4]; rfl)
    rw [e4]
    clear e1 e2 e4 hb
    go_upto_region 19 with (first
    | ((with_reducible apply wpList_box hR); exact rfl; exact rfl; clear hR; intro gi w hR; simp only [List.set_cons_succ, List.set_cons_zero])
    | ((with_reducible apply wpList_make hR zRow); exact rfl; clear hR; intro gr w hR; simp only [List.set_cons_succ, List.set_cons_zero])
    | ((with_reducible apply q_ls hR); exact rfl; ((with_reducible first | apply t_addr (fInst _ (by decide)) | apply t_addr (fRow _ (by decide)) | apply t_one tInt | apply t_one tWord | apply t_one tByte | apply t_one tBool | apply t_part tInst | apply t_part tRow) <;> (first | (apply EvC.gv; exact rfl; (with_reducible first | exact Imp.refl _ | (apply Imp.left; exact Imp.refl _) | (apply Imp.right; exact Imp.refl _) | (apply Imp.left; apply Imp.left; exact Imp.refl _))) | (apply EvC.now; exact rfl) | exact rfl | (with_reducible exact EvAll.nil) | (focus (repeat (first | apply EvAll.cons | exact EvAll.nil | (apply EvC.gv; exact rfl; (with_reducible first | exact Imp.refl _ | (apply Imp.left; exact Imp.refl _) | (apply Imp.right; exact Imp.refl _) | (apply Imp.left; apply Imp.left; exact Imp.refl _))) | (apply EvC.now; exact rfl))); done) | (first | apply ext_inst | apply ext_row) | (focus (repeat (first | apply List.Mem.head | apply List.Mem.tail))))); (simp only [List.set_cons_succ, List.set_cons_zero]; exact rfl); clear hR; intro w hR)
    | ((with_reducible apply wpList_box hR); exact rfl; exact rfl; clear hR; intro g w hR; simp only [List.set_cons_succ, List.set_cons_zero])
    | ((with_reducible apply wpList_make hR zInst); exact rfl; clear hR; intro g w hR; simp only [List.set_cons_succ, List.set_cons_zero])
    | ((with_reducible apply wpList_make hR zRow); exact rfl; clear hR; intro g w hR; simp only [List.set_cons_succ, List.set_cons_zero])
    | ((with_reducible apply wpList_put hR tInst); exact rfl; exact rfl; exact rfl; (focus (repeat (first | apply List.Mem.head | apply List.Mem.tail))); apply put_inst; exact rfl; simp [encI]; apply one_inst; (focus (repeat (first | apply Upd.head | apply Upd.tail))); clear hR; intro w hR)
    | ((with_reducible apply wpList_put hR tRow); exact rfl; exact rfl; exact rfl; (focus (repeat (first | apply List.Mem.head | apply List.Mem.tail))); apply put_row; exact rfl; simp [encR]; apply one_row; (focus (repeat (first | apply Upd.head | apply Upd.tail))); clear hR; intro w hR)
    | ((with_reducible apply wpList_built); exact rfl; exact rfl; (first | exact bInst1 _ | exact bInst2 _ _ | exact bInst3 _ _ | exact bRow0); (simp only [List.set_cons_succ, List.set_cons_zero]; exact rfl))
    | ((with_reducible apply wpList_buildS hR); exact rfl; exact rfl; (first | exact bS0 | exact bS1 _); clear hR; intro g w hR; simp only [List.set_cons_succ, List.set_cons_zero])
    | ((with_reducible apply wpList_appS hR tBytes); exact rfl; exact rfl; exact rfl; (focus (repeat (first | apply Del.head | apply Del.tail))); (focus (repeat (first | apply List.Mem.head | apply List.Mem.tail))); exact hS; exact SlIs.all rfl (by decide); (focus simp [Value.oneCell']); omega; clear hR hS; intro g cur cap w hR hS; simp only [List.set_cons_succ, List.set_cons_zero]))
    refine wp_region_some hR [(gr, encR i.row, 41), (gi, encI i, 24)] (by (focus (repeat (first | exact List.Sublist.slnil | apply List.Sublist.cons_cons | apply List.Sublist.cons)))) [0, 1, 2, 5, 6] 5 (by kernel_rfl) (by kernel_rfl) (by kernel_rfl) rfl ?_
    clear hR; intro hR
    repeat (refine wpT_step rfl ?_; first
    | ((first | (with_reducible apply q_pl) | ((with_reducible apply q_gd); (first | (apply GdBy.gt; exact rfl; exact rfl) | (apply GdBy.gf; exact rfl; exact rfl) | (apply GdBy.t; exact rfl; exact rfl) | (apply GdBy.f; exact rfl; exact rfl)))); (first | ((with_reducible first | apply t_move | apply t_assign | apply t_and | apply t_or | apply t_cmp | apply t_not | apply t_addr (fInst _ (by decide)) | apply t_addr (fRow _ (by decide)) | apply t_one tInt | apply t_one tWord | apply t_one tByte | apply t_one tBool | apply t_part tInst | apply t_part tRow) <;> (first | (apply EvC.gv; exact rfl; (with_reducible first | exact Imp.refl _ | (apply Imp.left; exact Imp.refl _) | (apply Imp.right; exact Imp.refl _) | (apply Imp.left; apply Imp.left; exact Imp.refl _))) | (apply EvC.now; exact rfl) | exact rfl | (with_reducible exact EvAll.nil) | (focus (repeat (first | apply EvAll.cons | exact EvAll.nil | (apply EvC.gv; exact rfl; (with_reducible first | exact Imp.refl _ | (apply Imp.left; exact Imp.refl _) | (apply Imp.right; exact Imp.refl _) | (apply Imp.left; apply Imp.left; exact Imp.refl _))) | (apply EvC.now; exact rfl))); done) | (first | apply ext_inst | apply ext_row) | (focus (repeat (first | apply List.Mem.head | apply List.Mem.tail)))))); (simp only [List.set_cons_succ, List.set_cons_zero]; exact rfl))
    | ((with_reducible apply q_gd); (first | (apply GdBy.gt; exact rfl; exact rfl) | (apply GdBy.gf; exact rfl; exact rfl) | (apply GdBy.t; exact rfl; exact rfl) | (apply GdBy.f; exact rfl; exact rfl)); ((with_reducible apply t_num) <;> (first | (apply EvC.gv; exact rfl; (with_reducible first | exact Imp.refl _ | (apply Imp.left; exact Imp.refl _) | (apply Imp.right; exact Imp.refl _) | (apply Imp.left; apply Imp.left; exact Imp.refl _))) | (apply EvC.now; exact rfl) | exact rfl | (with_reducible exact EvAll.nil) | (focus (repeat (first | apply EvAll.cons | exact EvAll.nil | (apply EvC.gv; exact rfl; (with_reducible first | exact Imp.refl _ | (apply Imp.left; exact Imp.refl _) | (apply Imp.right; exact Imp.refl _) | (apply Imp.left; apply Imp.left; exact Imp.refl _))) | (apply EvC.now; exact rfl))); done) | (first | apply ext_inst | apply ext_row) | (focus (repeat (first | apply List.Mem.head | apply List.Mem.tail))))); (simp only [List.set_cons_succ, List.set_cons_zero]; exact rfl))
    | ((with_reducible apply wpT1_gpure); (first | (apply GdBy.gt; exact rfl; exact rfl) | (apply GdBy.gf; exact rfl; exact rfl) | (apply GdBy.t; exact rfl; exact rfl) | (apply GdBy.f; exact rfl; exact rfl)); intro K hK; go_simp; refine hK _ ?_; clear hK K; simp only [List.set_cons_succ, List.set_cons_zero])
    | ((with_reducible apply wpT1_pure); exact rfl; intro K hK; go_simp; refine hK _ ?_; clear hK K; simp only [List.set_cons_succ, List.set_cons_zero]))
    refine wpG_callS hR (i := 3) (by kernel_rfl) Try.call17 rfl rfl (fun w1 => RetTwo w1 (i.imm % 256) (i.imm / 256)) (fun w1 => two5_any _ w1 hi.imm.1 hi.imm.2) ?_
    clear hR
    rintro w1 en w2 hR1 ⟨gt, rfl, hO⟩
    have hR := hR1.join hO
    clear hR1 hO
    refine ⟨_, rfl, hR.drop (by (focus (repeat (first | exact List.Sublist.slnil | apply List.Sublist.cons_cons | apply List.Sublist.cons)))), ?_⟩
    simp only [List.set_cons_succ, List.set_cons_zero]
    refine wpG_appS hR tBytes (i := 4) (by kernel_rfl) rfl rfl rfl (by (focus (repeat (first | apply Del.head | apply Del.tail)))) (by (focus (repeat (first | apply List.Mem.head | apply List.Mem.tail)))) hS (SlIs.all rfl (by decide)) rfl (by omega) (by (focus (repeat (first | exact List.Sublist.slnil | apply List.Sublist.cons_cons | apply List.Sublist.cons)))) ?_
    clear hR hS; intro g cur cap w hR hS
    simp only [List.set_cons_succ, List.set_cons_zero]
    refine wpG_callS hR (i := 7) (by kernel_rfl) Try.call17 rfl rfl (fun w1 => RetTwo w1 (i.sel % 256) (i.sel / 256)) (fun w1 => two5_any _ w1 hi.sel.1 hi.sel.2) ?_
    clear hR
    rintro w1 en w2 hR1 ⟨gt, rfl, hO⟩
    have hR := hR1.join hO
    clear hR1 hO
    refine ⟨_, rfl, hR.drop (by (focus (repeat (first | exact List.Sublist.slnil | apply List.Sublist.cons_cons | apply List.Sublist.cons)))), ?_⟩
    simp only [List.set_cons_succ, List.set_cons_zero]
    refine wpG_appS hR tBytes (i := 8) (by kernel_rfl) rfl rfl rfl (by (focus (repeat (first | apply Del.head | apply Del.tail)))) (by (focus (repeat (first | apply List.Mem.head | apply List.Mem.tail)))) hS (SlIs.all rfl (by decide)) rfl (by omega) (by (focus (repeat (first | exact List.Sublist.slnil | apply List.Sublist.cons_cons | apply List.Sublist.cons)))) ?_
    clear hR hS; intro g cur cap w hR hS
    simp only [List.set_cons_succ, List.set_cons_zero]
    refine wpG_slot hR (i := 9) (by kernel_rfl) rfl rfl (by simp only [List.set_cons_succ, List.set_cons_zero]; exact rfl) ?_
    clear hR; intro w hR
    refine wpG_end hR (by kernel_rfl) ?_
    clear hR; intro w hR
    go_wp2
    go_ret
    obtain ⟨_, h2, h3⟩ := put_fin HI.out hS (by simp only [List.append_assoc]; rfl)
    exact retSl_of rfl h2 (hR.drop (by (focus (repeat (first | exact List.Sublist.slnil | apply List.Sublist.cons_cons | apply List.Sublist.cons))))) h3
  · have HI : Hid (immV i = []) := Lib.hid (by unfold immV; rw [show (immsZ i.row == 1) = false from by simp [e1], show (immsZ i.row == 2) = false from by simp [e2], show (immsZ i.row == 4) = false from by simp [e4]]; rfl)
    have f1 : (immsZ i.row == 1) = false := by simp [e1]
    have f2 : (immsZ i.row == 2) = false := by simp [e2]
    have f4 : (immsZ i.row == 4) = false := by simp [e4]
    clear e1 e2 e4 hb
    go_wp2_with (first
    | ((with_reducible apply wpList_box hR); exact rfl; exact rfl; clear hR; intro gi w hR; simp only [List.set_cons_succ, List.set_cons_zero])
    | ((with_reducible apply wpList_make hR zRow); exact rfl; clear hR; intro gr w hR; simp only [List.set_cons_succ, List.set_cons_zero])
    | ((with_reducible apply q_ls hR); exact rfl; ((with_reducible first | apply t_addr (fInst _ (by decide)) | apply t_addr (fRow _ (by decide)) | apply t_one tInt | apply t_one tWord | apply t_one tByte | apply t_one tBool | apply t_part tInst | apply t_part tRow) <;> (first | (apply EvC.gv; exact rfl; (with_reducible first | exact Imp.refl _ | (apply Imp.left; exact Imp.refl _) | (apply Imp.right; exact Imp.refl _) | (apply Imp.left; apply Imp.left; exact Imp.refl _))) | (apply EvC.now; exact rfl) | exact rfl | (with_reducible exact EvAll.nil) | (focus (repeat (first | apply EvAll.cons | exact EvAll.nil | (apply EvC.gv; exact rfl; (with_reducible first | exact Imp.refl _ | (apply Imp.left; exact Imp.refl _) | (apply Imp.right; exact Imp.refl _) | (apply Imp.left; apply Imp.left; exact Imp.refl _))) | (apply EvC.now; exact rfl))); done) | (first | apply ext_inst | apply ext_row) | (focus (repeat (first | apply List.Mem.head | apply List.Mem.tail))))); (simp only [List.set_cons_succ, List.set_cons_zero]; exact rfl); clear hR; intro w hR)
    | ((with_reducible apply wpList_box hR); exact rfl; exact rfl; clear hR; intro g w hR; simp only [List.set_cons_succ, List.set_cons_zero])
    | ((with_reducible apply wpList_make hR zInst); exact rfl; clear hR; intro g w hR; simp only [List.set_cons_succ, List.set_cons_zero])
    | ((with_reducible apply wpList_make hR zRow); exact rfl; clear hR; intro g w hR; simp only [List.set_cons_succ, List.set_cons_zero])
    | ((with_reducible apply wpList_put hR tInst); exact rfl; exact rfl; exact rfl; (focus (repeat (first | apply List.Mem.head | apply List.Mem.tail))); apply put_inst; exact rfl; simp [encI]; apply one_inst; (focus (repeat (first | apply Upd.head | apply Upd.tail))); clear hR; intro w hR)
    | ((with_reducible apply wpList_put hR tRow); exact rfl; exact rfl; exact rfl; (focus (repeat (first | apply List.Mem.head | apply List.Mem.tail))); apply put_row; exact rfl; simp [encR]; apply one_row; (focus (repeat (first | apply Upd.head | apply Upd.tail))); clear hR; intro w hR)
    | ((with_reducible apply wpList_built); exact rfl; exact rfl; (first | exact bInst1 _ | exact bInst2 _ _ | exact bInst3 _ _ | exact bRow0); (simp only [List.set_cons_succ, List.set_cons_zero]; exact rfl))
    | ((with_reducible apply wpList_buildS hR); exact rfl; exact rfl; (first | exact bS0 | exact bS1 _); clear hR; intro g w hR; simp only [List.set_cons_succ, List.set_cons_zero])
    | ((with_reducible apply wpList_appS hR tBytes); exact rfl; exact rfl; exact rfl; (focus (repeat (first | apply Del.head | apply Del.tail))); (focus (repeat (first | apply List.Mem.head | apply List.Mem.tail))); exact hS; exact SlIs.all rfl (by decide); (focus simp [Value.oneCell']); omega; clear hR hS; intro g cur cap w hR hS; simp only [List.set_cons_succ, List.set_cons_zero]))
    go_ret
    obtain ⟨_, h2, h3⟩ := put_fin HI.out hS (by simp only [List.append_nil])
    exact retSl_of rfl h2 (hR.drop (by (focus (repeat (first | exact List.Sublist.slnil | apply List.Sublist.cons_cons | apply List.Sublist.cons))))) h3
end Go.Proofs.Ytnhlogameldkfaa
