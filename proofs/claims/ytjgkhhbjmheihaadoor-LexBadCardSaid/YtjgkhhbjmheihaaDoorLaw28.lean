








/- 'awake', 'digit', 'text' and 'piece' of hansomlaw28, over the contracts of package lex. No statement of the seat is proved here. -/
import Derived.Test.YtjgkhhbjmheihaaDoorLexN
import Derived.Test.YtjgkhhbjmheihaaDoorFld
import Derived.Test.YtjgkhhbjmheihaaDoorStrs
namespace Go.Proofs.YtjgkhhbjmheihaaDoor
open Go.ChangeShapes Go.WideShapes Go.ChangeAt Go.RowKit
set_option linter.unusedVariables false
set_option linter.unusedSimpArgs false

theorem fTokA (k : Nat) (h : k < 4) : FieldAtA Tryd.prog 28 k k := by
  match k, h with
  | 0, _ => exact ⟨fun g w => by simp [go_sem, Instr.fieldAt, fieldPlace]⟩
  | 1, _ => exact ⟨fun g w => by simp [go_sem, Instr.fieldAt, fieldPlace]⟩
  | 2, _ => exact ⟨fun g w => by simp [go_sem, Instr.fieldAt, fieldPlace]⟩
  | 3, _ => exact ⟨fun g w => by simp [go_sem, Instr.fieldAt, fieldPlace]⟩
theorem tNumL : OneTy Tryd.prog 26 := .of Tryd.underlying26 rfl (by kernel_rfl)
def awakeS : List Int := [109, 111, 118, 32, 97, 120, 44, 49, 50, 104, 32, 59, 32, 120]
def awakeT : List TokZ := [⟨1, [77, 79, 86], 0, 0⟩, ⟨1, [65, 88], 0, 0⟩, ⟨4, [44], 0, 0⟩, ⟨2, [], 18, 0⟩]
theorem awakeS_ok : bytesOk awakeS := ascii.ok (ascii_of rfl)
/-- A line whose pieces are known. -/
theorem line_is {s : List Int} (hs : bytesOk s) {l : List TokZ} {e : Int} (h : lineZ s = (l, e)) (w0 : World) :
    Calls Tryd.prog 6 #[.string (strOfNums s)] w0 fun en w' => ∃ v, en = .returned (.tuple #[v, .int .i64 e]) ∧ Below w0.heap.size w0 w' ∧ RowsAt 4 cellsTok w' v l := by
  refine (line_any hs w0).mono fun en w' hk => ?_
  rw [h] at hk
  exact RetR.now hk
theorem t_eqT {P : Program} {C : World → Prop} {tp : TypeId} {pos : String} {af : Array Edge} {gd : Option (Nat × Bool)} {ls : List Value} {ds : List Deferred} {c : Bool} {dd : Option Tmp} {ty ty' : TypeId} {x y : Operand} {ns : List Int} (hb : bytesOk ns) (hx : EvC ls c x (.string (strOfNums ns))) (hy : EvC ls c y (.string (strOfNums ns))) :
    TIf P C c ⟨dd, .binOp .eql ty x y ty', tp, pos, af, gd⟩ ⟨ls.toArray, ds⟩ (.bool true) := t_eqE hb hb hx hy (decide_eq_true rfl)
theorem cmp_eqL (a : Int) : cmpB .eql a a = some true := congrArg some (beq_self_eq_true a)
set_option maxHeartbeats 2000000 in
theorem awake28_any (w0 : World) :
    Calls Tryd.prog 7 #[] w0 fun e w' => e = .returned (.bool true) ∧ Below w0.heap.size w0 w' := by
  have hR := Own.start w0
  have HL := Lib.hid (line_is awakeS_ok (l := awakeT) (e := 0) scan_awake)
  have HU := Lib.hid (upper_any (s := [97, 90, 49]) (ascii.ok (ascii_of rfl)) (by decide))
  have hk1 : bytesOk [77, 79, 86] := ascii.ok (ascii_of rfl)
  have hk2 : bytesOk [65, 90, 49] := ascii.ok (ascii_of rfl)
  have HUE := Lib.hid (show upS [97, 90, 49] = [65, 90, 49] from rfl)
  go_enter Tryd.func7, Tryd.ntmps7
  go_wp2_with fail
  refine (HL.out _).mono ?_
  rintro e w1 ⟨v1, rfl, hb, hV⟩
  replace hR := hR.grow hb
  clear hb
  obtain ⟨a, cap, rfl, hc0⟩ := RowsAt.el cellsTok_len hV (i := 0) rfl
  have hc3 := RowsAt.cell cellsTok_len hV (i := 3) rfl
  have HS := Lib.hid (hc0 1 _ rfl)
  have HN := Lib.hid (hc3 2 _ rfl)
  clear hc0 hc3 hV
  go_wp2_with (first
    | ((with_reducible apply q_ls0); exact rfl; (with_reducible apply t_len Tryd.underlying25); (apply EvC.now; exact rfl); (simp only [List.set_cons_succ, List.set_cons_zero]; exact rfl))
    | ((with_reducible apply q_ls0); exact rfl; (with_reducible apply t_six Tryd.underlying25 iTok); (apply EvC.now; exact rfl); (apply EvC.now; exact rfl); (constructor <;> decide); (simp only [List.set_cons_succ, List.set_cons_zero]; exact rfl))
    | ((with_reducible apply q_ls0); exact rfl; (with_reducible apply t_fieldA (fTokA _ (by decide))); (apply EvC.now; exact rfl); (simp only [List.set_cons_succ, List.set_cons_zero]; exact rfl))
    | ((with_reducible apply q_ls0); exact rfl; (with_reducible apply t_cellW tStrO); (apply EvC.now; exact rfl); (exact fun w' h => h ▸ HS.out); (simp only [List.set_cons_succ, List.set_cons_zero]; exact rfl))
    | ((with_reducible apply q_ls0); exact rfl; (with_reducible apply t_cellW tNumL); (apply EvC.now; exact rfl); (exact fun w' h => h ▸ HN.out); (simp only [List.set_cons_succ, List.set_cons_zero]; exact rfl))
    | ((with_reducible apply q_ls0); exact rfl; (with_reducible apply t_eqT hk1); (apply EvC.now; exact rfl); (exact lit_now rfl); (simp only [List.set_cons_succ, List.set_cons_zero]; exact rfl))
    | (go_at_call 8; refine (HU.out _).mono ?_; rw [HUE.out]; rintro e w' ⟨rfl, hb⟩; replace hR := hR.grow hb; clear hb)
    | ((with_reducible apply q_ls0); exact rfl; (with_reducible apply t_eqT hk2); (apply EvC.now; exact rfl); (exact lit_now rfl); (simp only [List.set_cons_succ, List.set_cons_zero]; exact rfl)))
  go_ret
  exact ⟨rfl, hR.below⟩
/-! ### Numbers as texts -/
theorem bL1 (x : Int) : BuiltS Tryd.prog 38 1 [(0, .int .u8 x)] 5 #[.int .u8 x] := ⟨fun w => by simp [go_sem]⟩
theorem src_rowL {w0 w : World} {l : List RowT} {g : Nat} {e : TypeId} {x : Int} (hR : Own w0 w l) (hm : (g, #[.int .u8 x], e) ∈ l) (hb : 0 ≤ x ∧ x ≤ 255) : SrcW w (.slice (some ⟨g, 0, none⟩) 1 1) [x] := by
  have hi : RwIs 1 #[.int .u8 x] 1 1 (cellsB [x]) := (RwIs.all (by simp) (by decide)).cast rfl
  exact .ofRw (bs := [x]) hR hm hi (.cons hb .nil)
theorem digit28_any {d : Nat} (hd : d < 10) (w0 : World) :
    Calls Tryd.prog 14 #[.int .u64 (d : Int)] w0 fun e w' => e = .returned (.string (strOfNums [48 + (d : Int)])) ∧ Below w0.heap.size w0 w' := by
  have hR := Own.start w0
  have HL := Lib.hid (show cmpB .lss (d : Int) 10 = some true from congrArg some (decide_eq_true (by omega)))
  have HA := Lib.hid (show IntKind.u64.wrap (48 + (d : Int)) = 48 + (d : Int) from IntWalk.u64_in _ (by omega))
  have HC := Lib.hid (show IntKind.u8.wrap (48 + (d : Int)) = 48 + (d : Int) by rw [IntKind.wrap_u8]; omega)
  have hcb : 0 ≤ 48 + (d : Int) ∧ 48 + (d : Int) ≤ 255 := by omega
  go_enter Tryd.func14, Tryd.ntmps14
  go_wp2_with (first
    | ((with_reducible apply q_ls hR); exact rfl; (with_reducible apply t_cmp); (apply EvC.now; exact rfl); (apply EvC.now; exact rfl); exact HL.out; (simp only [List.set_cons_succ, List.set_cons_zero]; exact rfl); clear hR; intro w hR)
    | ((with_reducible apply q_ls hR); exact rfl; (with_reducible apply t_numE (op := .add)); (apply EvC.now; exact rfl); (apply EvC.now; exact rfl); exact rfl; exact HA.out; (simp only [List.set_cons_succ, List.set_cons_zero]; exact rfl); clear hR; intro w hR)
    | ((with_reducible apply q_ls hR); exact rfl; (with_reducible apply t_conv Tryd.underlying26 Tryd.underlying5); (apply EvC.now; exact rfl); exact HC.out; (simp only [List.set_cons_succ, List.set_cons_zero]; exact rfl); clear hR; intro w hR)
    | ((with_reducible apply wpList_buildS hR); exact rfl; exact rfl; (exact bL1 _); clear hR; intro gb w hR; simp only [List.set_cons_succ, List.set_cons_zero])
    | ((with_reducible apply q_ls hR); exact rfl; (with_reducible apply t_strW tTextL); (apply EvC.now; exact rfl); (exact fun w hC => src_rowL hC (.head _) hcb); (simp only [List.set_cons_succ, List.set_cons_zero]; exact rfl); clear hR; intro w hR))
  go_ret
  exact ⟨rfl, hR.below⟩
set_option maxHeartbeats 2000000 in
theorem text28_any (n : Nat) : n ≤ mostZ → ∀ w0 : World,
    Calls Tryd.prog 9 #[.int .u64 (n : Int), .int .u64 10] w0 fun e w' => e = .returned (.string (strOfNums (decS n))) ∧ Below w0.heap.size w0 w' := by
  induction n using Nat.strongRecOn with
  | ind n ih =>
    intro hn w0
    have hR := Own.start w0
    by_cases h10 : n < 10
    · rw [decS_small h10]
      have HL := Lib.hid (show cmpB .lss (n : Int) 10 = some true from congrArg some (decide_eq_true (by omega)))
      have HD := Lib.hid (digit28_any h10)
      go_enter Tryd.func9, Tryd.ntmps9
      go_wp2_with (first
    | ((with_reducible apply q_ls hR); exact rfl; (with_reducible apply t_cmp); (apply EvC.now; exact rfl); (apply EvC.now; exact rfl); exact HL.out; (simp only [List.set_cons_succ, List.set_cons_zero]; exact rfl); clear hR; intro w hR)
    | (go_at_call 14; refine (HD.out _).mono ?_; rintro e w' ⟨rfl, hb⟩; replace hR := hR.grow hb; clear hb))
      go_ret
      exact ⟨rfl, hR.below⟩
    · rw [decS_more h10]
      have HL := Lib.hid (show cmpB .lss (n : Int) 10 = some false from congrArg some (decide_eq_false (by omega)))
      have HT := Lib.hid (ih (n / 10) (by omega) (by omega))
      have HD := Lib.hid (digit28_any (show n % 10 < 10 by omega))
      have HQ := Lib.hid (show IntKind.u64.wrap ((n : Int).tdiv 10) = ((n / 10 : Nat) : Int) by
        unfold mostZ at hn; rw [IntWalk.u64_quo _ _ (by omega)]; omega)
      have HR := Lib.hid (show (n : Int).tmod 10 = ((n % 10 : Nat) : Int) by rw [rem_in (by omega)]; omega)
      have hlen : (decS (n / 10)).length + [48 + ((n % 10 : Nat) : Int)].length ≤ 1000000 := by
        have := decS_len (n / 10) 16 (by unfold mostZ at hn; omega) (by decide)
        simp only [List.length_cons, List.length_nil]; omega
      clear ih
      generalize decS (n / 10) = u at *
      generalize n / 10 = q at *
      generalize n % 10 = r at *
      go_enter Tryd.func9, Tryd.ntmps9
      go_upto_region 3 with (first
    | ((with_reducible apply q_ls hR); exact rfl; (with_reducible apply t_cmp); (apply EvC.now; exact rfl); (apply EvC.now; exact rfl); exact HL.out; (simp only [List.set_cons_succ, List.set_cons_zero]; exact rfl); clear hR; intro w hR))
      refine wp_region_rows hR [0, 1, 2, 3, 4, 5, 6, 7, 8, 9, 10] 0 (by kernel_rfl) (by kernel_rfl) (by kernel_rfl) rfl ?_
      clear hR; intro hR
      repeat (refine wpT_step rfl ?_; first
    | ((first | (with_reducible apply q_pl) | ((with_reducible apply q_gd); (first | (apply GdBy.gt; exact rfl; exact rfl) | (apply GdBy.gf; exact rfl; exact rfl) | (apply GdBy.t; exact rfl; exact rfl) | (apply GdBy.f; exact rfl; exact rfl)))); (with_reducible apply t_quo); (first | (apply EvC.gv; exact rfl; (with_reducible first | exact Imp.refl _ | (apply Imp.left; exact Imp.refl _) | (apply Imp.right; exact Imp.refl _) | (apply Imp.left; apply Imp.left; exact Imp.refl _))) | (apply EvC.now; exact rfl) | exact rfl | (with_reducible exact EvAll.nil) | (focus (repeat (first | apply EvAll.cons | exact EvAll.nil | (apply EvC.gv; exact rfl; (with_reducible first | exact Imp.refl _ | (apply Imp.left; exact Imp.refl _) | (apply Imp.right; exact Imp.refl _) | (apply Imp.left; apply Imp.left; exact Imp.refl _))) | (apply EvC.now; exact rfl))); done) | exact rfl | (focus (repeat (first | apply List.Mem.head | apply List.Mem.tail | apply List.mem_append_right)))); (first | (apply EvC.gv; exact rfl; (with_reducible first | exact Imp.refl _ | (apply Imp.left; exact Imp.refl _) | (apply Imp.right; exact Imp.refl _) | (apply Imp.left; apply Imp.left; exact Imp.refl _))) | (apply EvC.now; exact rfl) | exact rfl | (with_reducible exact EvAll.nil) | (focus (repeat (first | apply EvAll.cons | exact EvAll.nil | (apply EvC.gv; exact rfl; (with_reducible first | exact Imp.refl _ | (apply Imp.left; exact Imp.refl _) | (apply Imp.right; exact Imp.refl _) | (apply Imp.left; apply Imp.left; exact Imp.refl _))) | (apply EvC.now; exact rfl))); done) | exact rfl | (focus (repeat (first | apply List.Mem.head | apply List.Mem.tail | apply List.mem_append_right)))); omega; (exact HQ.out); (simp only [List.set_cons_succ, List.set_cons_zero]; exact rfl))
    | ((first | (with_reducible apply q_pl) | ((with_reducible apply q_gd); (first | (apply GdBy.gt; exact rfl; exact rfl) | (apply GdBy.gf; exact rfl; exact rfl) | (apply GdBy.t; exact rfl; exact rfl) | (apply GdBy.f; exact rfl; exact rfl)))); (with_reducible apply t_rem); (first | (apply EvC.gv; exact rfl; (with_reducible first | exact Imp.refl _ | (apply Imp.left; exact Imp.refl _) | (apply Imp.right; exact Imp.refl _) | (apply Imp.left; apply Imp.left; exact Imp.refl _))) | (apply EvC.now; exact rfl) | exact rfl | (with_reducible exact EvAll.nil) | (focus (repeat (first | apply EvAll.cons | exact EvAll.nil | (apply EvC.gv; exact rfl; (with_reducible first | exact Imp.refl _ | (apply Imp.left; exact Imp.refl _) | (apply Imp.right; exact Imp.refl _) | (apply Imp.left; apply Imp.left; exact Imp.refl _))) | (apply EvC.now; exact rfl))); done) | exact rfl | (focus (repeat (first | apply List.Mem.head | apply List.Mem.tail | apply List.mem_append_right)))); (first | (apply EvC.gv; exact rfl; (with_reducible first | exact Imp.refl _ | (apply Imp.left; exact Imp.refl _) | (apply Imp.right; exact Imp.refl _) | (apply Imp.left; apply Imp.left; exact Imp.refl _))) | (apply EvC.now; exact rfl) | exact rfl | (with_reducible exact EvAll.nil) | (focus (repeat (first | apply EvAll.cons | exact EvAll.nil | (apply EvC.gv; exact rfl; (with_reducible first | exact Imp.refl _ | (apply Imp.left; exact Imp.refl _) | (apply Imp.right; exact Imp.refl _) | (apply Imp.left; apply Imp.left; exact Imp.refl _))) | (apply EvC.now; exact rfl))); done) | exact rfl | (focus (repeat (first | apply List.Mem.head | apply List.Mem.tail | apply List.mem_append_right)))); omega; (exact HR.out); (simp only [List.set_cons_succ, List.set_cons_zero]; exact rfl))
    | ((first | (with_reducible apply q_pl) | ((with_reducible apply q_gd); (first | (apply GdBy.gt; exact rfl; exact rfl) | (apply GdBy.gf; exact rfl; exact rfl) | (apply GdBy.t; exact rfl; exact rfl) | (apply GdBy.f; exact rfl; exact rfl)))); (with_reducible apply t_catE); (first | (apply EvC.gv; exact rfl; (with_reducible first | exact Imp.refl _ | (apply Imp.left; exact Imp.refl _) | (apply Imp.right; exact Imp.refl _) | (apply Imp.left; apply Imp.left; exact Imp.refl _))) | (apply EvC.now; exact rfl) | exact rfl | (with_reducible exact EvAll.nil) | (focus (repeat (first | apply EvAll.cons | exact EvAll.nil | (apply EvC.gv; exact rfl; (with_reducible first | exact Imp.refl _ | (apply Imp.left; exact Imp.refl _) | (apply Imp.right; exact Imp.refl _) | (apply Imp.left; apply Imp.left; exact Imp.refl _))) | (apply EvC.now; exact rfl))); done) | exact rfl | (focus (repeat (first | apply List.Mem.head | apply List.Mem.tail | apply List.mem_append_right)))); (first | (apply EvC.gv; exact rfl; (with_reducible first | exact Imp.refl _ | (apply Imp.left; exact Imp.refl _) | (apply Imp.right; exact Imp.refl _) | (apply Imp.left; apply Imp.left; exact Imp.refl _))) | (apply EvC.now; exact rfl) | exact rfl | (with_reducible exact EvAll.nil) | (focus (repeat (first | apply EvAll.cons | exact EvAll.nil | (apply EvC.gv; exact rfl; (with_reducible first | exact Imp.refl _ | (apply Imp.left; exact Imp.refl _) | (apply Imp.right; exact Imp.refl _) | (apply Imp.left; apply Imp.left; exact Imp.refl _))) | (apply EvC.now; exact rfl))); done) | exact rfl | (focus (repeat (first | apply List.Mem.head | apply List.Mem.tail | apply List.mem_append_right)))); exact hlen; exact rfl; (simp only [List.set_cons_succ, List.set_cons_zero]; exact rfl))
    | ((first | (with_reducible apply q_pl) | ((with_reducible apply q_gd); (first | (apply GdBy.gt; exact rfl; exact rfl) | (apply GdBy.gf; exact rfl; exact rfl) | (apply GdBy.t; exact rfl; exact rfl) | (apply GdBy.f; exact rfl; exact rfl)))); (with_reducible apply t_call Tryd.call9); (first | (apply EvC.gv; exact rfl; (with_reducible first | exact Imp.refl _ | (apply Imp.left; exact Imp.refl _) | (apply Imp.right; exact Imp.refl _) | (apply Imp.left; apply Imp.left; exact Imp.refl _))) | (apply EvC.now; exact rfl) | exact rfl | (with_reducible exact EvAll.nil) | (focus (repeat (first | apply EvAll.cons | exact EvAll.nil | (apply EvC.gv; exact rfl; (with_reducible first | exact Imp.refl _ | (apply Imp.left; exact Imp.refl _) | (apply Imp.right; exact Imp.refl _) | (apply Imp.left; apply Imp.left; exact Imp.refl _))) | (apply EvC.now; exact rfl))); done) | exact rfl | (focus (repeat (first | apply List.Mem.head | apply List.Mem.tail | apply List.mem_append_right)))); (intro hcc w hC; exact tame_below (HT.out _) hC); (simp only [List.set_cons_succ, List.set_cons_zero]; exact rfl))
    | ((first | (with_reducible apply q_pl) | ((with_reducible apply q_gd); (first | (apply GdBy.gt; exact rfl; exact rfl) | (apply GdBy.gf; exact rfl; exact rfl) | (apply GdBy.t; exact rfl; exact rfl) | (apply GdBy.f; exact rfl; exact rfl)))); (with_reducible apply t_call Tryd.call14); (first | (apply EvC.gv; exact rfl; (with_reducible first | exact Imp.refl _ | (apply Imp.left; exact Imp.refl _) | (apply Imp.right; exact Imp.refl _) | (apply Imp.left; apply Imp.left; exact Imp.refl _))) | (apply EvC.now; exact rfl) | exact rfl | (with_reducible exact EvAll.nil) | (focus (repeat (first | apply EvAll.cons | exact EvAll.nil | (apply EvC.gv; exact rfl; (with_reducible first | exact Imp.refl _ | (apply Imp.left; exact Imp.refl _) | (apply Imp.right; exact Imp.refl _) | (apply Imp.left; apply Imp.left; exact Imp.refl _))) | (apply EvC.now; exact rfl))); done) | exact rfl | (focus (repeat (first | apply List.Mem.head | apply List.Mem.tail | apply List.mem_append_right)))); (intro hcc w hC; exact tame_below (HD.out _) hC); (simp only [List.set_cons_succ, List.set_cons_zero]; exact rfl))
    | ((first | (with_reducible apply q_pl) | ((with_reducible apply q_gd); (first | (apply GdBy.gt; exact rfl; exact rfl) | (apply GdBy.gf; exact rfl; exact rfl) | (apply GdBy.t; exact rfl; exact rfl) | (apply GdBy.f; exact rfl; exact rfl)))); (first | ((with_reducible first | apply t_move | apply t_assign | apply t_and | apply t_or | apply t_cmp | apply t_not | fail | fail) <;> (first | (apply EvC.gv; exact rfl; (with_reducible first | exact Imp.refl _ | (apply Imp.left; exact Imp.refl _) | (apply Imp.right; exact Imp.refl _) | (apply Imp.left; apply Imp.left; exact Imp.refl _))) | (apply EvC.now; exact rfl) | exact rfl | (with_reducible exact EvAll.nil) | (focus (repeat (first | apply EvAll.cons | exact EvAll.nil | (apply EvC.gv; exact rfl; (with_reducible first | exact Imp.refl _ | (apply Imp.left; exact Imp.refl _) | (apply Imp.right; exact Imp.refl _) | (apply Imp.left; apply Imp.left; exact Imp.refl _))) | (apply EvC.now; exact rfl))); done) | exact rfl | (focus (repeat (first | apply List.Mem.head | apply List.Mem.tail | apply List.mem_append_right)))))); (simp only [List.set_cons_succ, List.set_cons_zero]; exact rfl)))
      refine wpG_end hR (by kernel_rfl) ?_
      clear hR; intro w hR
      go_wp2_with fail
      go_ret
      exact ⟨rfl, hR.below⟩
end Go.Proofs.YtjgkhhbjmheihaaDoor
