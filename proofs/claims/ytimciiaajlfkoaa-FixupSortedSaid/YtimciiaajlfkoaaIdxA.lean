






/- The contracts of what package index writes (and of bits.Low, High and Word, and of its small map). No statement of the seat is proved here. -/
import Derived.Test.YtimciiaajlfkoaaIdxM
import Derived.Test.YtimciiaajlfkoaaBase
import Derived.Test.YtimciiaajlfkoaaAppG
import Derived.Test.YtimciiaajlfkoaaMapQ
import Derived.Deep.DeepCutAuto
import Derived.Deep.CutBlock
namespace Go.Proofs.Ytimciiaajlfkoaa
open Go.ChangeShapes Go.WideShapes Go.ChangeAt Go.RowKit
set_option linter.unusedVariables false
set_option linter.unusedSimpArgs false

theorem sub_rightI {a s l : List RowT} (h : a.Sublist l) : a.Sublist (s ++ l) := h.trans (List.sublist_append_right s l)
theorem iByteI : (Try.prog.info? 5).map (·.size) = some 1 := by kernel_rfl
theorem tByteI : OneTy Try.prog 5 := .of Try.underlying5 rfl (by kernel_rfl)
theorem tBytesI : SliceB Try.prog 29 5 1 1 := .of (z := .int .u8 0) Try.underlying29 (by kernel_rfl) rfl (by decide)
theorem tStrI : StrTy Try.prog 29 9 5 := .of Try.underlying29 Try.underlying9 (by kernel_rfl)
/-! ### Package bits -/
theorem lowI_any (x : Int) (w : World) (h0 : 0 ≤ x) (h1 : x ≤ 65535) :
    Calls Try.prog 40 #[.int .u16 x] w fun e w' => e = .returned (.int .u8 (x % 256)) ∧ w = w' := by
  go_enter Try.func40, Try.ntmps40
  go_wp2
  go_ret
  exact ⟨ret_int (by simp only [IntKind.wrap_u8]), rfl⟩
theorem highI_any (x : Int) (w : World) (h0 : 0 ≤ x) (h1 : x ≤ 65535) :
    Calls Try.prog 39 #[.int .u16 x] w fun e w' => e = .returned (.int .u8 (x / 256)) ∧ w = w' := by
  go_enter Try.func39, Try.ntmps39
  go_wp2
  go_ret
  exact ⟨ret_int (by first | rfl | (simp only [IntKind.wrap_u8]; omega)), rfl⟩
theorem wordI_any (l h : Int) (w : World) (h0 : 0 ≤ l) (h1 : l ≤ 255) (h2 : 0 ≤ h) (h3 : h ≤ 255) :
    Calls Try.prog 55 #[.int .u8 l, .int .u8 h] w fun e w' => e = .returned (.int .u16 (h * 256 + l)) ∧ w = w' := by
  go_enter Try.func55, Try.ntmps55
  go_wp2
  go_ret
  refine ⟨ret_int ?_, rfl⟩
  rw [u16_or _ _ (by omega) (by omega) (by omega) (by omega), nat_join 8 _ _ (by omega) (by omega)]
  omega
/-! ### The map of marks -/
def marksE : Array MapEntry := #[⟨.int .u8 129, .int .i64 2, 0⟩, ⟨.int .u8 132, .int .i64 3, 1⟩, ⟨.int .u8 136, .int .i64 4, 2⟩]
def markR (a : Int) : Option (Nat × Value) := if a = 129 then some (0, .int .i64 2) else if a = 132 then some (1, .int .i64 3) else if a = 136 then some (2, .int .i64 4) else none
theorem mark_find (a : Int) : Instr.findNow (.int .u8) (.int .u8 a) marksE.toList 0 = some (markR a) := by
  unfold markR
  by_cases h1 : a = 129
  · subst h1; rfl
  by_cases h2 : a = 132
  · subst h2; rfl
  by_cases h3 : a = 136
  · subst h3; rfl
  rw [if_neg h1, if_neg h2, if_neg h3]
  have e1 : (a == (129 : Int)) = false := beq_eq_false_iff_ne.2 h1
  have e2 : (a == (132 : Int)) = false := beq_eq_false_iff_ne.2 h2
  have e3 : (a == (136 : Int)) = false := beq_eq_false_iff_ne.2 h3
  simp [marksE, Instr.findNow, Instr.sameNow, e1, e2, e3]
/-! ### Two and four bytes -/
def RowsB (w w' : World) (e : Ending) (bs : List Int) : Prop := ∃ s v, e = .returned v ∧ Own w w' s ∧ Sl 5 1 s v bs.length (cellsB bs)
theorem zIntI (w : World) : (zeroValue 3).run Try.prog w = .ok (.int .i64 0) w := by kernel_rfl
theorem cells_pairI (a b : Int) : cellsB [a, b] = [Value.int .u8 a, Value.int .u8 b] := rfl
theorem slI {g : Nat} {cur : Array Value} {ns : List Int} (hc : cur.toList = cellsB ns) (hl : ns.length ≤ 1000000) : Sl 5 1 [(g, cur, 5)] (.slice (some ⟨g, 0, none⟩) ns.length ns.length) ns.length (cellsB ns) := by
  have hs : cur.size = ns.length := by rw [← Array.length_toList, hc, cellsB_len]
  exact ((RwIs.all (by rw [hs, Nat.mul_one]) hl).cast hc).sl
theorem twoX_any (n : Nat) (w0 : World) (h : n ≤ 65535) : Calls Try.prog 26 #[.int .u16 n] w0 fun e w' => RowsB w0 w' e (bytesN n 2) := by
  have hR := Own.start w0
  have HV := Lib.hid (show [(n : Int) % 256, (n : Int) / 256] = bytesN n 2 by simp only [bytesN]; congr 1; congr 1; omega)
  go_enter Try.func26, Try.ntmps26
  go_wp2_with (first
    | (go_at_call 40; refine (lowI_any _ _ (by omega) (by omega)).mono ?_; rintro e w' ⟨rfl, rfl⟩)
    | (go_at_call 39; refine (highI_any _ _ (by omega) (by omega)).mono ?_; rintro e w' ⟨rfl, rfl⟩)
    | ((with_reducible apply wpList_buildS hR); exact rfl; exact rfl; (exact bB2 _ _); clear hR; intro gb w hR; simp only [List.set_cons_succ, List.set_cons_zero]))
  go_ret
  rw [← HV.out]
  exact ⟨_, _, rfl, hR, slI (ns := [_, _]) rfl (by simp)⟩
/-! ### An index -/
theorem or128I {h : Int} (h0 : 0 ≤ h) (h1 : h ≤ 127) : bits .or .u8 h 128 = h + 128 := by
  obtain ⟨k, rfl⟩ := Int.eq_ofNat_of_zero_le h0
  have e := u8_or_nat k 128 (by omega) (by omega)
  have e2 : k ||| 128 = k + 128 := by
    have := Nat.two_pow_add_eq_or_of_lt (i := 7) (b := k) (by omega) 1
    rw [show 2 ^ 7 * 1 = 128 from rfl] at this
    rw [Nat.or_comm]
    omega
  rw [e2] at e
  exact e
theorem putX_any (n : Int) (w0 : World) (h0 : -9223372036854775808 ≤ n) (h1 : n ≤ 9223372036854775807) : Calls Try.prog 25 #[.int .i64 n] w0 fun e w' => RowsB w0 w' e (idxN n) := by
  have hR := Own.start w0
  obtain ⟨m, hm⟩ : ∃ m, clipI n = m := ⟨_, rfl⟩
  have hb := clipI_bd n
  rw [show idxN n = idxK m by unfold idxN; rw [hm]]
  rw [hm] at hb
  have HM := Lib.hid hm
  clear hm
  go_enter Try.func25, Try.ntmps25
  go_upto_region 1 with fail
  refine wp_region_tame hR [0, 1, 2, 3, 4, 5] rfl ?_
  repeat (refine wpT_step rfl ?_; first
    | ((first | (with_reducible apply q_pl) | ((with_reducible apply q_gd); (first | (apply GdBy.gt; exact rfl; exact rfl) | (apply GdBy.gf; exact rfl; exact rfl) | (apply GdBy.t; exact rfl; exact rfl) | (apply GdBy.f; exact rfl; exact rfl)))); (first | ((with_reducible first | apply t_move | apply t_assign | apply t_and | apply t_or | apply t_cmp | apply t_not | fail | fail) <;> (first | (apply EvC.gv; exact rfl; (with_reducible first | exact Imp.refl _ | (apply Imp.left; exact Imp.refl _) | (apply Imp.right; exact Imp.refl _) | (apply Imp.left; apply Imp.left; exact Imp.refl _))) | (apply EvC.now; exact rfl) | exact rfl | (with_reducible exact EvAll.nil) | (focus (repeat (first | apply EvAll.cons | exact EvAll.nil | (apply EvC.gv; exact rfl; (with_reducible first | exact Imp.refl _ | (apply Imp.left; exact Imp.refl _) | (apply Imp.right; exact Imp.refl _) | (apply Imp.left; apply Imp.left; exact Imp.refl _))) | (apply EvC.now; exact rfl))); done) | exact rfl | (focus (repeat (first | apply List.Mem.head | apply List.Mem.tail | apply List.mem_append_right)))))); (simp only [List.set_cons_succ, List.set_cons_zero]; exact rfl))
    | ((with_reducible apply q_gd); (first | (apply GdBy.gt; exact rfl; exact rfl) | (apply GdBy.gf; exact rfl; exact rfl) | (apply GdBy.t; exact rfl; exact rfl) | (apply GdBy.f; exact rfl; exact rfl)); ((with_reducible apply t_num) <;> (first | (apply EvC.gv; exact rfl; (with_reducible first | exact Imp.refl _ | (apply Imp.left; exact Imp.refl _) | (apply Imp.right; exact Imp.refl _) | (apply Imp.left; apply Imp.left; exact Imp.refl _))) | (apply EvC.now; exact rfl) | exact rfl | (with_reducible exact EvAll.nil) | (focus (repeat (first | apply EvAll.cons | exact EvAll.nil | (apply EvC.gv; exact rfl; (with_reducible first | exact Imp.refl _ | (apply Imp.left; exact Imp.refl _) | (apply Imp.right; exact Imp.refl _) | (apply Imp.left; apply Imp.left; exact Imp.refl _))) | (apply EvC.now; exact rfl))); done) | exact rfl | (focus (repeat (first | apply List.Mem.head | apply List.Mem.tail | apply List.mem_append_right))))); (simp only [List.set_cons_succ, List.set_cons_zero]; exact rfl))
    | ((with_reducible apply wpT1_gpure); (first | (apply GdBy.gt; exact rfl; exact rfl) | (apply GdBy.gf; exact rfl; exact rfl) | (apply GdBy.t; exact rfl; exact rfl) | (apply GdBy.f; exact rfl; exact rfl)); intro K hK; go_simp; refine hK _ ?_; clear hK K; simp only [List.set_cons_succ, List.set_cons_zero])
    | ((with_reducible apply wpT1_pure); exact rfl; intro K hK; go_simp; refine hK _ ?_; clear hK K; simp only [List.set_cons_succ, List.set_cons_zero]))
  refine wpT_nil ?_
  clear hR; intro w hR
  go_upto_if 9 with fail
  go_cut [0] (fun x wr => x = .int .i64 m ∧ Own w0 wr [])
  case first =>
    by_cases ha : n < 0 ∨ 32767 < n
    · have hm : m = 0 := by rw [← HM.out]; exact if_pos ha
      subst hm
      refine wp_cond_at (nm := true) rfl (by simp; omega) (fun _ => ?_) (fun h => absurd h (by decide))
      go_wp2_with fail
      go_meet
      exact ⟨rfl, hR⟩
    · have hm : n = m := by rw [← HM.out]; exact (if_neg ha).symm
      subst hm
      refine wp_cond_at (nm := false) rfl (by simp; omega) (fun h => absurd h (by decide)) (fun _ => ?_)
      go_wp2_with fail
      go_meet
      exact ⟨rfl, hR⟩
  case rest =>
  clear hR
  obtain ⟨rfl, hR⟩ := hcut
  by_cases hs : m < 128
  · have HV := Lib.hid (show idxK m = [m] from if_pos hs)
    have HC := Lib.hid (show IntKind.u8.wrap m = m by rw [IntKind.wrap_u8]; omega)
    go_wp2_with (first
    | ((with_reducible apply q_ls hR); exact rfl; (with_reducible apply t_conv Try.underlying3 Try.underlying5); (apply EvC.now; exact rfl); exact HC.out; (simp only [List.set_cons_succ, List.set_cons_zero]; exact rfl); clear hR; intro w hR)
    | ((with_reducible apply wpList_buildS hR); exact rfl; exact rfl; (exact bB1 _); clear hR; intro gb w hR; simp only [List.set_cons_succ, List.set_cons_zero]))
    go_ret
    rw [HV.out]
    refine ⟨_, _, rfl, hR, ?_⟩
    exact slI (ns := [_]) rfl (by simp)
  · have HV := Lib.hid (show idxK m = [m / 256 + 128, m % 256] from if_neg hs)
    have HC := Lib.hid (show IntKind.u16.wrap m = m by rw [IntKind.wrap_u16]; omega)
    have HO := Lib.hid (or128I (h := m / 256) (by omega) (by omega))
    go_wp2_with (first
    | ((with_reducible apply q_ls hR); exact rfl; (with_reducible apply t_conv Try.underlying3 Try.underlying22); (apply EvC.now; exact rfl); exact HC.out; (simp only [List.set_cons_succ, List.set_cons_zero]; exact rfl); clear hR; intro w hR)
    | ((with_reducible apply q_ls hR); exact rfl; (with_reducible apply t_numE (op := .or)); (apply EvC.now; exact rfl); (apply EvC.now; exact rfl); exact rfl; exact HO.out; (simp only [List.set_cons_succ, List.set_cons_zero]; exact rfl); clear hR; intro w hR)
    | (go_at_call 40; refine (lowI_any _ _ (by omega) (by omega)).mono ?_; rintro e w' ⟨rfl, rfl⟩)
    | (go_at_call 39; refine (highI_any _ _ (by omega) (by omega)).mono ?_; rintro e w' ⟨rfl, rfl⟩)
    | ((with_reducible apply wpList_buildS hR); exact rfl; exact rfl; (exact bB2 _ _); clear hR; intro gb w hR; simp only [List.set_cons_succ, List.set_cons_zero]))
    go_ret
    rw [HV.out]
    refine ⟨_, _, rfl, hR, ?_⟩
    exact slI (ns := [_, _]) rfl (by simp)
/-! ### A length -/
theorem bytesN_take : ∀ (n k m : Nat), k ≤ m → (bytesN n m).take k = bytesN n k
  | _, 0, _, _ => by simp [bytesN]
  | n, k + 1, m + 1, h => by simp only [bytesN, List.take_succ_cons, bytesN_take (n / 256) k m (by omega)]
  | _, _ + 1, 0, h => absurd h (by omega)
theorem Rd.numsI {w : World} {v : Value} {k : Nat} {bs : List Int} (h : Rd w 1 v k (cellsB bs)) : bs.length = k := by have := h.len; rw [cellsB_len] at this; omega
/-! ### A name -/
theorem wpList_appStr {P : Program} {ops : Array Oper} {rest : List Oper} {Q : Exit → Act → World → Prop} {tp : TypeId} {pos : String} {af : Array Edge} {gd : Option (Nat × Bool)} {ls : List Value} {ds : List Deferred} {w0 w : World} {l' : List RowT} {d : Tmp} {t u e : TypeId} {x y : Operand} {g n cap : Nat} {cur : Array Value} {xs : List Value} {s : ByteArray}
    (hR : Own w0 w ((g, cur, e) :: l')) (ht : StrTy P t u e) (hgd : Region.wanted ⟨some d, .call { callee := .builtin .append, args := #[x, y], argTypes := #[t, u] }, tp, pos, af, gd⟩ (yielded ops ls.toArray) = true)
    (hx : evalL ls x = some (.slice (some ⟨g, 0, none⟩) n cap)) (hy : evalL ls y = some (.string s)) (hS : RwIs 1 cur n cap xs) (hsm : n + s.size ≤ 1000000)
    (h : ∀ h cur' cap2 w', Own w0 w' ((h, cur', e) :: l') → RwIs 1 cur' (n + s.size) cap2 (xs ++ Lib.strCells s) → wpList P ops Q rest ⟨(ls.set d (.slice (some ⟨h, 0, none⟩) (n + s.size) cap2)).toArray, ds⟩ w') :
    wpList P ops Q (⟨some d, .call { callee := .builtin .append, args := #[x, y], argTypes := #[t, u] }, tp, pos, af, gd⟩ :: rest) ⟨ls.toArray, ds⟩ w := by
  obtain ⟨g2, cur', cap2, w', hr, hO, hS'⟩ := run_appStr (o := ⟨some d, .call { callee := .builtin .append, args := #[x, y], argTypes := #[t, u] }, tp, pos, af, gd⟩) ht hR rfl (eval_of hx) (eval_of hy) (.head) hS hsm
  exact wpList_run_value hgd hr (by rw [put_list]; exact h g2 cur' cap2 w' hO hS')
theorem strCellsS (s : ByteArray) : Lib.strCells s = cellsB (numsS s) := by
  unfold Lib.strCells cellsB numsS
  rw [List.map_map]
  rfl
theorem strCellsI {ns : List Int} (h : bytesOk ns) : Lib.strCells (strOfNums ns) = cellsB ns := by rw [strCellsS, nums_strOf h]
end Go.Proofs.Ytimciiaajlfkoaa
