





/- The contracts of hansomref18: what records consist of, as numbers. No statement of the seat is proved here. -/
import Derived.Test.YtimciiaajlfkoaaStr
import Derived.Test.YtimciiaajlfkoaaChecked
import Derived.Deep.DeepCutAuto
import Derived.Deep.CutBlock
namespace Go.Proofs.Ytimciiaajlfkoaa
open Go.ChangeShapes Go.WideShapes Go.ChangeAt Go.RowKit
set_option linter.unusedVariables false
set_option linter.unusedSimpArgs false

/-! ### What they come to -/
def sumI : List Int → Int
  | [] => 0
  | n :: l => n + sumI l
def sumN (ns : List Int) : Int := (256 - sumI ns % 256) % 256
def clipI (n : Int) : Int := if n < 0 ∨ 32767 < n then 0 else n
def idxK (n : Int) : List Int := if n < 128 then [n] else [n / 256 + 128, n % 256]
def idxN (n : Int) : List Int := idxK (clipI n)
def nam18 (ns : List Int) : List Int := ((ns.take 255).length : Int) :: ns.take 255
def bytesN : Nat → Nat → List Int
  | _, 0 => []
  | n, k + 1 => ((n % 256 : Nat) : Int) :: bytesN (n / 256) k
def longN (n : Nat) : List Int := if n ≤ 128 then bytesN n 1 else if n < 65536 then 129 :: bytesN n 2 else if n < 16777216 then 132 :: bytesN n 3 else 136 :: bytesN n 4
def recB (kind : Int) (ns : List Int) : List Int := kind :: (bytesN (ns.length + 1) 2 ++ ns)
def recN (kind : Int) (ns : List Int) : List Int := recB kind ns ++ [sumN (recB kind ns)]
theorem sumI_bd : ∀ {ns : List Int}, bytesOk ns → 0 ≤ sumI ns ∧ sumI ns ≤ 255 * (ns.length : Int)
  | [], _ => by simp [sumI]
  | n :: l, h => by
    have h1 := h n (.head _)
    have h2 := sumI_bd (ns := l) (fun m hm => h m (.tail _ hm))
    simp only [sumI, List.length_cons]
    omega
theorem sumI_append : ∀ (a b : List Int), sumI (a ++ b) = sumI a + sumI b
  | [], b => by simp [sumI]
  | n :: a, b => by simp only [List.cons_append, sumI, sumI_append a b]; omega
theorem sumN_bd (ns : List Int) : 0 ≤ sumN ns ∧ sumN ns ≤ 255 := by unfold sumN; omega
theorem clipI_bd (n : Int) : 0 ≤ clipI n ∧ clipI n ≤ 32767 := by unfold clipI; split <;> omega
theorem idxK_ok {n : Int} (h : 0 ≤ n ∧ n ≤ 32767) : bytesOk (idxK n) := by
  unfold idxK
  split
  · exact .cons (by omega) .nil
  · exact .cons (by omega) (.cons (by omega) .nil)
theorem idxN_ok (n : Int) : bytesOk (idxN n) := idxK_ok (clipI_bd n)
theorem idxK_len (n : Int) : 1 ≤ (idxK n).length ∧ (idxK n).length ≤ 2 := by unfold idxK; split <;> simp
theorem idxN_len (n : Int) : 1 ≤ (idxN n).length ∧ (idxN n).length ≤ 2 := idxK_len _
theorem nam18_ok {ns : List Int} (h : bytesOk ns) : bytesOk (nam18 ns) := .cons (by rw [List.length_take]; omega) (h.take _)
theorem nam18_len (ns : List Int) : (nam18 ns).length = min 255 ns.length + 1 := by simp [nam18, List.length_take]
theorem bytesN_ok : ∀ (n k : Nat), bytesOk (bytesN n k)
  | _, 0 => .nil
  | n, k + 1 => .cons (by omega) (bytesN_ok _ k)
theorem bytesN_len : ∀ (n k : Nat), (bytesN n k).length = k
  | _, 0 => rfl
  | n, k + 1 => by simp [bytesN, bytesN_len _ k]
theorem bytesN_more (n : Nat) : ∀ (k m : Nat), bytesN n k ++ [((n / 256 ^ k % 256 : Nat) : Int)] = bytesN n (k + 1)
  | 0, _ => by simp [bytesN]
  | k + 1, m => by
    show ((n % 256 : Nat) : Int) :: (bytesN (n / 256) k ++ _) = ((n % 256 : Nat) : Int) :: bytesN (n / 256) (k + 1)
    rw [← bytesN_more (n / 256) k m, Nat.div_div_eq_div_mul, Nat.pow_succ, Nat.mul_comm]
theorem longN_ok (n : Nat) : bytesOk (longN n) := by
  unfold longN
  split
  · exact bytesN_ok _ _
  split
  · exact .cons (by omega) (bytesN_ok _ _)
  split
  · exact .cons (by omega) (bytesN_ok _ _)
  · exact .cons (by omega) (bytesN_ok _ _)
theorem longN_len (n : Nat) : (longN n).length ≤ 5 := by
  unfold longN
  split
  · rw [bytesN_len]; omega
  split
  · simp [bytesN_len]
  split
  · simp [bytesN_len]
  · simp [bytesN_len]
theorem recB_ok {kind : Int} {ns : List Int} (hk : 0 ≤ kind ∧ kind ≤ 255) (h : bytesOk ns) : bytesOk (recB kind ns) := .cons hk ((bytesN_ok _ _).append h)
theorem recN_ok {kind : Int} {ns : List Int} (hk : 0 ≤ kind ∧ kind ≤ 255) (h : bytesOk ns) : bytesOk (recN kind ns) := (recB_ok hk h).append (.cons (sumN_bd _) .nil)
theorem recB_len (kind : Int) (ns : List Int) : (recB kind ns).length = ns.length + 3 := by simp [recB, bytesN_len]; omega
theorem recN_len (kind : Int) (ns : List Int) : (recN kind ns).length = ns.length + 4 := by simp [recN, recB_len]
/-! ### Types -/
theorem tTextN : TextTy Try.prog 29 5 9 := ⟨Try.underlying29, Try.underlying5, Try.underlying9⟩
theorem tBytesN : SliceTy Try.prog 29 5 := .of (z := .int .u8 0) (b := 1) Try.underlying29 (by kernel_rfl) (by decide) rfl
theorem bB1 (x : Int) : BuiltS Try.prog 29 1 [(0, .int .u8 x)] 5 #[.int .u8 x] := ⟨fun w => by simp [go_sem]⟩
theorem bB2 (x y : Int) : BuiltS Try.prog 29 2 [(0, .int .u8 x), (1, .int .u8 y)] 5 #[.int .u8 x, .int .u8 y] := ⟨fun w => by simp [go_sem]⟩
/-- Bytes of a row of the call's own. -/
theorem src_row {w0 w : World} {l : List RowT} {g : Nat} {cur : Array Value} {e : TypeId} {ns : List Int} (hR : Own w0 w l) (hm : (g, cur, e) ∈ l) (hc : cur.toList = cellsB ns) (hb : bytesOk ns) (hl : ns.length ≤ 1000000) : SrcW w (.slice (some ⟨g, 0, none⟩) ns.length ns.length) ns := by
  have hs : cur.size = ns.length := by rw [← Array.length_toList, hc, cellsB_len]
  exact .ofRw hR hm ((RwIs.all (by rw [hs, Nat.mul_one]) hl).cast hc) hb
/-! ### Contracts -/
theorem str_one {n : Int} : cellsB [n] = [Value.int .u8 n] := rfl
theorem str_two {n m : Int} : cellsB [n, m] = [Value.int .u8 n, Value.int .u8 m] := rfl
theorem r18index_any (n : Int) (w0 : World) (h0 : -9223372036854775808 ≤ n) (h1 : n ≤ 9223372036854775807) :
    Calls Try.prog 17 #[.int .i64 n] w0 fun e w' => e = .returned (.string (strOfNums (idxN n))) ∧ Below w0.heap.size w0 w' := by
  have hR := Own.start w0
  obtain ⟨m, hm⟩ : ∃ m, clipI n = m := ⟨_, rfl⟩
  have hb := clipI_bd n
  rw [show idxN n = idxK m by unfold idxN; rw [hm]]
  rw [hm] at hb
  have HM := Lib.hid hm
  clear hm
  go_enter Try.func17, Try.ntmps17
  go_upto_region 1 with fail
  refine wp_region_tame hR [0, 1, 2, 3, 4, 5] rfl ?_
  repeat (refine wpT_step rfl ?_; first
    | ((first | (with_reducible apply q_pl) | ((with_reducible apply q_gd); (first | (apply GdBy.gt; exact rfl; exact rfl) | (apply GdBy.gf; exact rfl; exact rfl) | (apply GdBy.t; exact rfl; exact rfl) | (apply GdBy.f; exact rfl; exact rfl)))); (first | ((with_reducible first | apply t_move | apply t_assign | apply t_and | apply t_or | apply t_cmp | apply t_not | fail | fail) <;> (first | (apply EvC.gv; exact rfl; (with_reducible first | exact Imp.refl _ | (apply Imp.left; exact Imp.refl _) | (apply Imp.right; exact Imp.refl _) | (apply Imp.left; apply Imp.left; exact Imp.refl _))) | (apply EvC.now; exact rfl) | exact rfl | (with_reducible exact EvAll.nil) | (focus (repeat (first | apply EvAll.cons | exact EvAll.nil | (apply EvC.gv; exact rfl; (with_reducible first | exact Imp.refl _ | (apply Imp.left; exact Imp.refl _) | (apply Imp.right; exact Imp.refl _) | (apply Imp.left; apply Imp.left; exact Imp.refl _))) | (apply EvC.now; exact rfl))); done) | exact rfl | (focus (repeat (first | apply List.Mem.head | apply List.Mem.tail | apply List.mem_append_right)))))); (simp only [List.set_cons_succ, List.set_cons_zero]; exact rfl))
    | ((with_reducible apply q_gd); (first | (apply GdBy.gt; exact rfl; exact rfl) | (apply GdBy.gf; exact rfl; exact rfl) | (apply GdBy.t; exact rfl; exact rfl) | (apply GdBy.f; exact rfl; exact rfl)); ((with_reducible apply t_num) <;> (first | (apply EvC.gv; exact rfl; (with_reducible first | exact Imp.refl _ | (apply Imp.left; exact Imp.refl _) | (apply Imp.right; exact Imp.refl _) | (apply Imp.left; apply Imp.left; exact Imp.refl _))) | (apply EvC.now; exact rfl) | exact rfl | (with_reducible exact EvAll.nil) | (focus (repeat (first | apply EvAll.cons | exact EvAll.nil | (apply EvC.gv; exact rfl; (with_reducible first | exact Imp.refl _ | (apply Imp.left; exact Imp.refl _) | (apply Imp.right; exact Imp.refl _) | (apply Imp.left; apply Imp.left; exact Imp.refl _))) | (apply EvC.now; exact rfl))); done) | exact rfl | (focus (repeat (first | apply List.Mem.head | apply List.Mem.tail | apply List.mem_append_right))))); (simp only [List.set_cons_succ, List.set_cons_zero]; exact rfl))
    | ((with_reducible apply wpT1_gpure); (first | (apply GdBy.gt; exact rfl; exact rfl) | (apply GdBy.gf; exact rfl; exact rfl) | (apply GdBy.t; exact rfl; exact rfl) | (apply GdBy.f; exact rfl; exact rfl)); intro K hK; go_simp; refine hK _ ?_; clear hK K; simp only [List.set_cons_succ, List.set_cons_zero])
    | ((with_reducible apply wpT1_pure); exact rfl; intro K hK; go_simp; refine hK _ ?_; clear hK K; simp only [List.set_cons_succ, List.set_cons_zero]))
  refine wpT_nil ?_
  clear hR; intro w hR
  go_upto_if 8 with fail
  go_cut [0] (fun x wr => x = .int .i64 m ∧ Own w0 wr [])
  case first =>
    by_cases ha : n < 0 ∨ 32767 < n
    · have hm : m = 0 := by rw [← HM.out]; exact if_pos ha
      subst hm
      refine wp_cond_at (nm := true) rfl (by simp; omega) (fun _ => ?_) (fun h => absurd h (by decide))
      go_wp2_with fail
      go_meet
      exact ⟨rfl, hR⟩
    · have hm : n = m := by rw [← HM.out]; exact (if_neg ha).symm
      subst hm
      refine wp_cond_at (nm := false) rfl (by simp; omega) (fun h => absurd h (by decide)) (fun _ => ?_)
      go_wp2_with fail
      go_meet
      exact ⟨rfl, hR⟩
  case rest =>
  clear hR
  obtain ⟨rfl, hR⟩ := hcut
  by_cases hs : m < 128
  · have HV := Lib.hid (show idxK m = [m] from if_pos hs)
    have hok : bytesOk [m] := .cons (by omega) .nil
    go_wp2_with (first
    | ((with_reducible apply wpList_buildS hR); exact rfl; exact rfl; (exact bB1 _); clear hR; intro gb w hR; simp only [List.set_cons_succ, List.set_cons_zero])
    | ((with_reducible apply q_ls hR); exact rfl; (with_reducible apply t_strW tTextN); (apply EvC.now; exact rfl); (exact fun w hC => src_row hC (.head _) rfl hok (by simp)); (simp only [List.set_cons_succ, List.set_cons_zero]; exact rfl); clear hR; intro w hR))
    go_ret
    exact ⟨by rw [HV.out]; rfl, hR.below⟩
  · have HV := Lib.hid (show idxK m = [m / 256 + 128, m % 256] from if_neg hs)
    have hok : bytesOk [m / 256 + 128, m % 256] := .cons (by omega) (.cons (by omega) .nil)
    go_wp2_with (first
    | ((with_reducible apply wpList_buildS hR); exact rfl; exact rfl; (exact bB2 _ _); clear hR; intro gb w hR; simp only [List.set_cons_succ, List.set_cons_zero])
    | ((with_reducible apply q_ls hR); exact rfl; (with_reducible apply t_strW tTextN); (apply EvC.now; exact rfl); (exact fun w hC => src_row hC (.head _) rfl hok (by simp)); (simp only [List.set_cons_succ, List.set_cons_zero]; exact rfl); clear hR; intro w hR))
    go_ret
    exact ⟨by rw [HV.out]; rfl, hR.below⟩
theorem u64_quo (n k : Nat) (h : n < 18446744073709551616) : IntKind.u64.wrap (((n / 256 ^ k : Nat) : Int).tdiv 256) = ((n / 256 ^ (k + 1) : Nat) : Int) := by
  have h1 : n / 256 ^ k ≤ n := Nat.div_le_self _ _
  generalize hm : n / 256 ^ k = m at h1
  have h2 : n / 256 ^ (k + 1) = m / 256 := by rw [← hm, Nat.div_div_eq_div_mul, Nat.pow_succ]
  rw [h2, Int.tdiv_eq_ediv_of_nonneg (by omega), IntKind.wrap_u64]
  omega
theorem r18bytes_any (n k : Nat) (w0 : World) (hn : n < 18446744073709551616) (hk : k ≤ 16) :
    Calls Try.prog 18 #[.int .u64 n, .int .i64 k] w0 fun e w' => e = .returned (.string (strOfNums (bytesN n k))) ∧ Below w0.heap.size w0 w' := by
  have hR := Own.start w0
  go_enter Try.func18, Try.ntmps18
  go_wp2_with fail
  go_loopw [0, 5, 6] (fun x s i wr => ∃ j : Nat, i = .int .i64 j ∧ j ≤ k ∧ x = .int .u64 ((n / 256 ^ j : Nat) : Int) ∧ s = .string (strOfNums (bytesN n j)) ∧ Own w0 wr []) (fun _ _ i _ => k - (intOf i).toNat)
  case atStart => exact ⟨0, rfl, Nat.zero_le _, by simp, rfl, hR⟩
  case round =>
    clear hR
    obtain ⟨j, rfl, hj, rfl, rfl, hR⟩ := hrel
    by_cases hjk : j < k
    · have HQ := Lib.hid (u64_quo n j hn)
      have hle : n / 256 ^ j ≤ n := Nat.div_le_self _ _
      have HB := Lib.hid (bytesN_more n j 0)
      have hlj := bytesN_len n j
      generalize hx : n / 256 ^ j = x at *
      generalize hs : bytesN n j = s at *
      have hok : bytesOk [((x % 256 : Nat) : Int)] := .cons (by omega) .nil
      have HC := Lib.hid (show IntKind.u8.wrap (((x : Nat) : Int).tmod 256) = ((x % 256 : Nat) : Int) by rw [Int.tmod_eq_emod_of_nonneg (by omega), IntKind.wrap_u8]; omega)
      clear hx hs
      go_upto_region 3 with fail
      refine wp_region_tame hR [0, 1, 2] rfl ?_
      repeat (refine wpT_step rfl ?_; first
    | ((first | (with_reducible apply q_pl) | ((with_reducible apply q_gd); (first | (apply GdBy.gt; exact rfl; exact rfl) | (apply GdBy.gf; exact rfl; exact rfl) | (apply GdBy.t; exact rfl; exact rfl) | (apply GdBy.f; exact rfl; exact rfl)))); (first | ((with_reducible first | apply t_move | apply t_assign | apply t_and | apply t_or | apply t_cmp | apply t_not | fail | fail) <;> (first | (apply EvC.gv; exact rfl; (with_reducible first | exact Imp.refl _ | (apply Imp.left; exact Imp.refl _) | (apply Imp.right; exact Imp.refl _) | (apply Imp.left; apply Imp.left; exact Imp.refl _))) | (apply EvC.now; exact rfl) | exact rfl | (with_reducible exact EvAll.nil) | (focus (repeat (first | apply EvAll.cons | exact EvAll.nil | (apply EvC.gv; exact rfl; (with_reducible first | exact Imp.refl _ | (apply Imp.left; exact Imp.refl _) | (apply Imp.right; exact Imp.refl _) | (apply Imp.left; apply Imp.left; exact Imp.refl _))) | (apply EvC.now; exact rfl))); done) | exact rfl | (focus (repeat (first | apply List.Mem.head | apply List.Mem.tail | apply List.mem_append_right)))))); (simp only [List.set_cons_succ, List.set_cons_zero]; exact rfl))
    | ((with_reducible apply q_gd); (first | (apply GdBy.gt; exact rfl; exact rfl) | (apply GdBy.gf; exact rfl; exact rfl) | (apply GdBy.t; exact rfl; exact rfl) | (apply GdBy.f; exact rfl; exact rfl)); ((with_reducible apply t_num) <;> (first | (apply EvC.gv; exact rfl; (with_reducible first | exact Imp.refl _ | (apply Imp.left; exact Imp.refl _) | (apply Imp.right; exact Imp.refl _) | (apply Imp.left; apply Imp.left; exact Imp.refl _))) | (apply EvC.now; exact rfl) | exact rfl | (with_reducible exact EvAll.nil) | (focus (repeat (first | apply EvAll.cons | exact EvAll.nil | (apply EvC.gv; exact rfl; (with_reducible first | exact Imp.refl _ | (apply Imp.left; exact Imp.refl _) | (apply Imp.right; exact Imp.refl _) | (apply Imp.left; apply Imp.left; exact Imp.refl _))) | (apply EvC.now; exact rfl))); done) | exact rfl | (focus (repeat (first | apply List.Mem.head | apply List.Mem.tail | apply List.mem_append_right))))); (simp only [List.set_cons_succ, List.set_cons_zero]; exact rfl))
    | ((with_reducible apply wpT1_gpure); (first | (apply GdBy.gt; exact rfl; exact rfl) | (apply GdBy.gf; exact rfl; exact rfl) | (apply GdBy.t; exact rfl; exact rfl) | (apply GdBy.f; exact rfl; exact rfl)); intro K hK; go_simp; refine hK _ ?_; clear hK K; simp only [List.set_cons_succ, List.set_cons_zero])
    | ((with_reducible apply wpT1_pure); exact rfl; intro K hK; go_simp; refine hK _ ?_; clear hK K; simp only [List.set_cons_succ, List.set_cons_zero]))
      refine wpT_nil ?_
      clear hR; intro w hR
      go_upto_if 9 with fail
      refine wp_cond_at (nm := true) rfl (by simp; omega) (fun _ => ?_) (fun h => absurd h (by decide))
      go_wp2_with (first
    | ((with_reducible apply q_ls hR); exact rfl; (with_reducible apply t_rem); (apply EvC.now; exact rfl); (apply EvC.now; exact rfl); (decide); exact rfl; (simp only [List.set_cons_succ, List.set_cons_zero]; exact rfl); clear hR; intro w hR)
    | ((with_reducible apply q_ls hR); exact rfl; (with_reducible apply t_conv Try.underlying50 Try.underlying5); (apply EvC.now; exact rfl); exact HC.out; (simp only [List.set_cons_succ, List.set_cons_zero]; exact rfl); clear hR; intro w hR)
    | ((with_reducible apply q_ls hR); exact rfl; (with_reducible apply t_quo); (apply EvC.now; exact rfl); (apply EvC.now; exact rfl); (decide); exact HQ.out; (simp only [List.set_cons_succ, List.set_cons_zero]; exact rfl); clear hR; intro w hR)
    | ((with_reducible apply wpList_buildS hR); exact rfl; exact rfl; (exact bB1 _); clear hR; intro gb w hR; simp only [List.set_cons_succ, List.set_cons_zero])
    | ((with_reducible apply q_ls hR); exact rfl; (with_reducible apply t_strW tTextN); (apply EvC.now; exact rfl); (exact fun w hC => src_row hC (.head _) rfl hok (by simp)); (simp only [List.set_cons_succ, List.set_cons_zero]; exact rfl); clear hR; intro w hR)
    | ((with_reducible apply q_ls hR); exact rfl; (with_reducible apply t_cat); (apply EvC.now; exact rfl); (apply EvC.now; exact rfl); (simp; omega); (simp only [List.set_cons_succ, List.set_cons_zero]; exact rfl); clear hR; intro w hR))
      go_round
      case rel => exact ⟨j + 1, rfl, by omega, rfl, by rw [← HB.out], hR.drop (List.nil_sublist _)⟩
      case measure => simp [intOf]; omega
    · have he : j = k := by omega
      subst he
      go_wp2_with fail
      go_ret
      exact ⟨rfl, hR.below⟩
theorem lit129 : (⟨#[129]⟩ : ByteArray) = strOfNums [129] := rfl
theorem lit132 : (⟨#[132]⟩ : ByteArray) = strOfNums [132] := rfl
theorem lit136 : (⟨#[136]⟩ : ByteArray) = strOfNums [136] := rfl
theorem lit0 : (⟨#[]⟩ : ByteArray) = strOfNums [] := rfl
end Go.Proofs.Ytimciiaajlfkoaa
