






/- The contracts of what package index writes (and of bits.Low, High and Word, and of its small map). No statement of the seat is proved here. -/
import Derived.Test.YtmiakniilimghaaIdxM
import Derived.Test.YtmiakniilimghaaBase
import Derived.Test.YtmiakniilimghaaAppG
import Derived.Test.YtmiakniilimghaaMapQ
import Derived.Deep.DeepCutAuto
import Derived.Deep.CutBlock
namespace Go.Proofs.Ytmiakniilimghaa
open Go.ChangeShapes Go.WideShapes Go.ChangeAt Go.RowKit
set_option linter.unusedVariables false
set_option linter.unusedSimpArgs false

theorem sub_rightI {a s l : List RowT} (h : a.Sublist l) : a.Sublist (s ++ l) := h.trans (List.sublist_append_right s l)
theorem iByteI : (Try.prog.info? 5).map (·.size) = some 1 := by kernel_rfl
theorem tByteI : OneTy Try.prog 5 := .of Try.underlying5 rfl (by kernel_rfl)
theorem tBytesI : SliceB Try.prog 26 5 1 1 := .of (z := .int .u8 0) Try.underlying26 (by kernel_rfl) rfl (by decide)
theorem tStrI : StrTy Try.prog 26 9 5 := .of Try.underlying26 Try.underlying9 (by kernel_rfl)
/-! ### Package bits -/
theorem lowI_any (x : Int) (w : World) (h0 : 0 ≤ x) (h1 : x ≤ 65535) :
    Calls Try.prog 40 #[.int .u16 x] w fun e w' => e = .returned (.int .u8 (x % 256)) ∧ w = w' := by
  go_enter Try.func40, Try.ntmps40
  go_wp2
  go_ret
  exact ⟨ret_int (by simp only [IntKind.wrap_u8]), rfl⟩
theorem highI_any (x : Int) (w : World) (h0 : 0 ≤ x) (h1 : x ≤ 65535) :
    Calls Try.prog 41 #[.int .u16 x] w fun e w' => e = .returned (.int .u8 (x / 256)) ∧ w = w' := by
  go_enter Try.func41, Try.ntmps41
  go_wp2
  go_ret
  exact ⟨ret_int (by first | rfl | (simp only [IntKind.wrap_u8]; omega)), rfl⟩
theorem wordI_any (l h : Int) (w : World) (h0 : 0 ≤ l) (h1 : l ≤ 255) (h2 : 0 ≤ h) (h3 : h ≤ 255) :
    Calls Try.prog 43 #[.int .u8 l, .int .u8 h] w fun e w' => e = .returned (.int .u16 (h * 256 + l)) ∧ w = w' := by
  go_enter Try.func43, Try.ntmps43
  go_wp2
  go_ret
  refine ⟨ret_int ?_, rfl⟩
  rw [u16_or _ _ (by omega) (by omega) (by omega) (by omega), nat_join 8 _ _ (by omega) (by omega)]
  omega
/-! ### The map of marks -/
def marksE : Array MapEntry := #[⟨.int .u8 129, .int .i64 2, 0⟩, ⟨.int .u8 132, .int .i64 3, 1⟩, ⟨.int .u8 136, .int .i64 4, 2⟩]
def markR (a : Int) : Option (Nat × Value) := if a = 129 then some (0, .int .i64 2) else if a = 132 then some (1, .int .i64 3) else if a = 136 then some (2, .int .i64 4) else none
theorem mark_find (a : Int) : Instr.findNow (.int .u8) (.int .u8 a) marksE.toList 0 = some (markR a) := by
  unfold markR
  by_cases h1 : a = 129
  · subst h1; rfl
  by_cases h2 : a = 132
  · subst h2; rfl
  by_cases h3 : a = 136
  · subst h3; rfl
  rw [if_neg h1, if_neg h2, if_neg h3]
  have e1 : (a == (129 : Int)) = false := beq_eq_false_iff_ne.2 h1
  have e2 : (a == (132 : Int)) = false := beq_eq_false_iff_ne.2 h2
  have e3 : (a == (136 : Int)) = false := beq_eq_false_iff_ne.2 h3
  simp [marksE, Instr.findNow, Instr.sameNow, e1, e2, e3]
theorem marks_any (w : World) : Calls Try.prog 51 #[] w fun e w' => ∃ g, e = .returned (.map (some g)) ∧ OwnM w w' [] [(g, marksE, 3)] := by
  have hM := (Own.start w).noM
  go_enter Try.func51, Try.ntmps51
  go_wp2_with (first
    | ((with_reducible apply wpList_makeMap hM); exact rfl; clear hM; intro g w hM; simp only [List.set_cons_succ, List.set_cons_zero])
    | ((with_reducible apply wpList_fill hM Try.underlying86 Try.underlying5); exact rfl; exact rfl; exact rfl; exact rfl; exact rfl; clear hM; intro w hM))
  go_ret
  exact ⟨g, rfl, hM⟩
/-! ### Two and four bytes -/
def RowsB (w w' : World) (e : Ending) (bs : List Int) : Prop := ∃ s v, e = .returned v ∧ Own w w' s ∧ Sl 5 1 s v bs.length (cellsB bs)
theorem zIntI (w : World) : (zeroValue 3).run Try.prog w = .ok (.int .i64 0) w := by kernel_rfl
theorem cells_pairI (a b : Int) : cellsB [a, b] = [Value.int .u8 a, Value.int .u8 b] := rfl
theorem slI {g : Nat} {cur : Array Value} {ns : List Int} (hc : cur.toList = cellsB ns) (hl : ns.length ≤ 1000000) : Sl 5 1 [(g, cur, 5)] (.slice (some ⟨g, 0, none⟩) ns.length ns.length) ns.length (cellsB ns) := by
  have hs : cur.size = ns.length := by rw [← Array.length_toList, hc, cellsB_len]
  exact ((RwIs.all (by rw [hs, Nat.mul_one]) hl).cast hc).sl
theorem twoX_any (n : Nat) (w0 : World) (h : n ≤ 65535) : Calls Try.prog 20 #[.int .u16 n] w0 fun e w' => RowsB w0 w' e (bytesN n 2) := by
  have hR := Own.start w0
  have HV := Lib.hid (show [(n : Int) % 256, (n : Int) / 256] = bytesN n 2 by simp only [bytesN]; congr 1; congr 1; omega)
  go_enter Try.func20, Try.ntmps20
  go_wp2_with (first
    | (go_at_call 40; refine (lowI_any _ _ (by omega) (by omega)).mono ?_; rintro e w' ⟨rfl, rfl⟩)
    | (go_at_call 41; refine (highI_any _ _ (by omega) (by omega)).mono ?_; rintro e w' ⟨rfl, rfl⟩)
    | ((with_reducible apply wpList_buildS hR); exact rfl; exact rfl; (exact bB2 _ _); clear hR; intro gb w hR; simp only [List.set_cons_succ, List.set_cons_zero]))
  go_ret
  rw [← HV.out]
  exact ⟨_, _, rfl, hR, slI (ns := [_, _]) rfl (by simp)⟩
theorem fourX_any (n : Nat) (w0 : World) (h : n ≤ 4294967295) : Calls Try.prog 52 #[.int .u32 n] w0 fun e w' => RowsB w0 w' e (bytesN n 4) := by
  have hR := Own.start w0
  have HV := Lib.hid (show bytesN (n % 65536) 2 ++ bytesN (n / 65536) 2 = bytesN n 4 by
    simp only [bytesN, List.cons_append, List.nil_append]
    rw [show n % 65536 % 256 = n % 256 by omega, show n % 65536 / 256 % 256 = n / 256 % 256 by omega, show n / 65536 % 256 = n / 256 / 256 % 256 by omega, show n / 65536 / 256 % 256 = n / 256 / 256 / 256 % 256 by omega])
  have HA := Lib.hid (show IntKind.u16.wrap (n : Int) = ((n % 65536 : Nat) : Int) by rw [IntKind.wrap_u16]; omega)
  have HS := Lib.hid (show (n : Int) / 2 ^ 16 = ((n / 65536 : Nat) : Int) by omega)
  have HB := Lib.hid (show IntKind.u16.wrap (((n / 65536 : Nat) : Nat) : Int) = ((n / 65536 : Nat) : Int) by rw [IntKind.wrap_u16]; omega)
  obtain ⟨a, ha⟩ : ∃ a, n % 65536 = a := ⟨_, rfl⟩
  obtain ⟨b, hb⟩ : ∃ b, n / 65536 = b := ⟨_, rfl⟩
  rw [ha] at HV HA
  rw [hb] at HV HB HS
  have h1 : a ≤ 65535 := by omega
  have h2 : b ≤ 65535 := by omega
  clear ha hb
  have hla := bytesN_len a 2
  have hlb := bytesN_len b 2
  go_enter Try.func52, Try.ntmps52
  go_wp2_with (first
    | ((with_reducible apply q_ls hR); exact rfl; (with_reducible apply t_conv Try.underlying42 Try.underlying23); (apply EvC.now; exact rfl); (first | exact HA.out | exact HB.out); (simp only [List.set_cons_succ, List.set_cons_zero]; exact rfl); clear hR; intro w hR)
    | ((with_reducible apply q_ls hR); exact rfl; (with_reducible apply t_shrE (k := 16)); (apply EvC.now; exact rfl); (apply EvC.now; exact rfl); exact rfl; (decide); exact HS.out; (simp only [List.set_cons_succ, List.set_cons_zero]; exact rfl); clear hR; intro w hR)
    | (go_at_call 20; refine (twoX_any a _ h1).mono ?_; rintro e w' ⟨s1, v1, rfl, hO, hS1⟩; replace hR := hR.join hO; clear hO h1)
    | (go_at_call 20; refine (twoX_any b _ h2).mono ?_; rintro e w' ⟨s2, v2, rfl, hO, hS2⟩; replace hR := hR.join hO; clear hO h2)
    | ((with_reducible apply wpList_appG hR tBytesI); exact rfl; exact rfl; exact rfl; exact hS1; (exact Les.skip _ (Les.head (s := s1))); (exact hS2.rd hR (fun r hr => List.mem_append_left _ hr) (by simp [cellsB, List.all_map, Value.oneCell'])); (rw [hla, hlb]; decide); (rw [hla, hlb]; decide); clear hR hS1; intro s3 v3 w hR hS3; simp only [List.set_cons_succ, List.set_cons_zero]))
  go_ret
  rw [← HV.out]
  refine ⟨s3, v3, rfl, hR.drop (List.sublist_append_left _ _), ?_⟩
  rw [List.length_append, cellsB_append]
  exact hS3
/-! ### An index -/
theorem or128I {h : Int} (h0 : 0 ≤ h) (h1 : h ≤ 127) : bits .or .u8 h 128 = h + 128 := by
  obtain ⟨k, rfl⟩ := Int.eq_ofNat_of_zero_le h0
  have e := u8_or_nat k 128 (by omega) (by omega)
  have e2 : k ||| 128 = k + 128 := by
    have := Nat.two_pow_add_eq_or_of_lt (i := 7) (b := k) (by omega) 1
    rw [show 2 ^ 7 * 1 = 128 from rfl] at this
    rw [Nat.or_comm]
    omega
  rw [e2] at e
  exact e
theorem putX_any (n : Int) (w0 : World) (h0 : -9223372036854775808 ≤ n) (h1 : n ≤ 9223372036854775807) : Calls Try.prog 21 #[.int .i64 n] w0 fun e w' => RowsB w0 w' e (idxN n) := by
  have hR := Own.start w0
  obtain ⟨m, hm⟩ : ∃ m, clipI n = m := ⟨_, rfl⟩
  have hb := clipI_bd n
  rw [show idxN n = idxK m by unfold idxN; rw [hm]]
  rw [hm] at hb
  have HM := Lib.hid hm
  clear hm
  go_enter Try.func21, Try.ntmps21
  go_upto_region 1 with fail
  refine wp_region_tame hR [0, 1, 2, 3, 4, 5] rfl ?_
  repeat (refine wpT_step rfl ?_; first
    | ((first | (with_reducible apply q_pl) | ((with_reducible apply q_gd); (first | (apply GdBy.gt; exact rfl; exact rfl) | (apply GdBy.gf; exact rfl; exact rfl) | (apply GdBy.t; exact rfl; exact rfl) | (apply GdBy.f; exact rfl; exact rfl)))); (first | ((with_reducible first | apply t_move | apply t_assign | apply t_and | apply t_or | apply t_cmp | apply t_not | fail | fail) <;> (first | (apply EvC.gv; exact rfl; (with_reducible first | exact Imp.refl _ | (apply Imp.left; exact Imp.refl _) | (apply Imp.right; exact Imp.refl _) | (apply Imp.left; apply Imp.left; exact Imp.refl _))) | (apply EvC.now; exact rfl) | exact rfl | (with_reducible exact EvAll.nil) | (focus (repeat (first | apply EvAll.cons | exact EvAll.nil | (apply EvC.gv; exact rfl; (with_reducible first | exact Imp.refl _ | (apply Imp.left; exact Imp.refl _) | (apply Imp.right; exact Imp.refl _) | (apply Imp.left; apply Imp.left; exact Imp.refl _))) | (apply EvC.now; exact rfl))); done) | exact rfl | (focus (repeat (first | apply List.Mem.head | apply List.Mem.tail | apply List.mem_append_right)))))); (simp only [List.set_cons_succ, List.set_cons_zero]; exact rfl))
    | ((with_reducible apply q_gd); (first | (apply GdBy.gt; exact rfl; exact rfl) | (apply GdBy.gf; exact rfl; exact rfl) | (apply GdBy.t; exact rfl; exact rfl) | (apply GdBy.f; exact rfl; exact rfl)); ((with_reducible apply t_num) <;> (first | (apply EvC.gv; exact rfl; (with_reducible first | exact Imp.refl _ | (apply Imp.left; exact Imp.refl _) | (apply Imp.right; exact Imp.refl _) | (apply Imp.left; apply Imp.left; exact Imp.refl _))) | (apply EvC.now; exact rfl) | exact rfl | (with_reducible exact EvAll.nil) | (focus (repeat (first | apply EvAll.cons | exact EvAll.nil | (apply EvC.gv; exact rfl; (with_reducible first | exact Imp.refl _ | (apply Imp.left; exact Imp.refl _) | (apply Imp.right; exact Imp.refl _) | (apply Imp.left; apply Imp.left; exact Imp.refl _))) | (apply EvC.now; exact rfl))); done) | exact rfl | (focus (repeat (first | apply List.Mem.head | apply List.Mem.tail | apply List.mem_append_right))))); (simp only [List.set_cons_succ, List.set_cons_zero]; exact rfl))
    | ((with_reducible apply wpT1_gpure); (first | (apply GdBy.gt; exact rfl; exact rfl) | (apply GdBy.gf; exact rfl; exact rfl) | (apply GdBy.t; exact rfl; exact rfl) | (apply GdBy.f; exact rfl; exact rfl)); intro K hK; go_simp; refine hK _ ?_; clear hK K; simp only [List.set_cons_succ, List.set_cons_zero])
    | ((with_reducible apply wpT1_pure); exact rfl; intro K hK; go_simp; refine hK _ ?_; clear hK K; simp only [List.set_cons_succ, List.set_cons_zero]))
  refine wpT_nil ?_
  clear hR; intro w hR
  go_upto_if 9 with fail
  go_cut [0] (fun x wr => x = .int .i64 m ∧ Own w0 wr [])
  case first =>
    by_cases ha : n < 0 ∨ 32767 < n
    · have hm : m = 0 := by rw [← HM.out]; exact if_pos ha
      subst hm
      refine wp_cond_at (nm := true) rfl (by simp; omega) (fun _ => ?_) (fun h => absurd h (by decide))
      go_wp2_with fail
      go_meet
      exact ⟨rfl, hR⟩
    · have hm : n = m := by rw [← HM.out]; exact (if_neg ha).symm
      subst hm
      refine wp_cond_at (nm := false) rfl (by simp; omega) (fun h => absurd h (by decide)) (fun _ => ?_)
      go_wp2_with fail
      go_meet
      exact ⟨rfl, hR⟩
  case rest =>
  clear hR
  obtain ⟨rfl, hR⟩ := hcut
  by_cases hs : m < 128
  · have HV := Lib.hid (show idxK m = [m] from if_pos hs)
    have HC := Lib.hid (show IntKind.u8.wrap m = m by rw [IntKind.wrap_u8]; omega)
    go_wp2_with (first
    | ((with_reducible apply q_ls hR); exact rfl; (with_reducible apply t_conv Try.underlying3 Try.underlying5); (apply EvC.now; exact rfl); exact HC.out; (simp only [List.set_cons_succ, List.set_cons_zero]; exact rfl); clear hR; intro w hR)
    | ((with_reducible apply wpList_buildS hR); exact rfl; exact rfl; (exact bB1 _); clear hR; intro gb w hR; simp only [List.set_cons_succ, List.set_cons_zero]))
    go_ret
    rw [HV.out]
    refine ⟨_, _, rfl, hR, ?_⟩
    exact slI (ns := [_]) rfl (by simp)
  · have HV := Lib.hid (show idxK m = [m / 256 + 128, m % 256] from if_neg hs)
    have HC := Lib.hid (show IntKind.u16.wrap m = m by rw [IntKind.wrap_u16]; omega)
    have HO := Lib.hid (or128I (h := m / 256) (by omega) (by omega))
    go_wp2_with (first
    | ((with_reducible apply q_ls hR); exact rfl; (with_reducible apply t_conv Try.underlying3 Try.underlying23); (apply EvC.now; exact rfl); exact HC.out; (simp only [List.set_cons_succ, List.set_cons_zero]; exact rfl); clear hR; intro w hR)
    | ((with_reducible apply q_ls hR); exact rfl; (with_reducible apply t_numE (op := .or)); (apply EvC.now; exact rfl); (apply EvC.now; exact rfl); exact rfl; exact HO.out; (simp only [List.set_cons_succ, List.set_cons_zero]; exact rfl); clear hR; intro w hR)
    | (go_at_call 40; refine (lowI_any _ _ (by omega) (by omega)).mono ?_; rintro e w' ⟨rfl, rfl⟩)
    | (go_at_call 41; refine (highI_any _ _ (by omega) (by omega)).mono ?_; rintro e w' ⟨rfl, rfl⟩)
    | ((with_reducible apply wpList_buildS hR); exact rfl; exact rfl; (exact bB2 _ _); clear hR; intro gb w hR; simp only [List.set_cons_succ, List.set_cons_zero]))
    go_ret
    rw [HV.out]
    refine ⟨_, _, rfl, hR, ?_⟩
    exact slI (ns := [_, _]) rfl (by simp)
/-! ### A length -/
theorem bytesN_take : ∀ (n k m : Nat), k ≤ m → (bytesN n m).take k = bytesN n k
  | _, 0, _, _ => by simp [bytesN]
  | n, k + 1, m + 1, h => by simp only [bytesN, List.take_succ_cons, bytesN_take (n / 256) k m (by omega)]
  | _, _ + 1, 0, h => absurd h (by omega)
theorem Rd.numsI {w : World} {v : Value} {k : Nat} {bs : List Int} (h : Rd w 1 v k (cellsB bs)) : bs.length = k := by have := h.len; rw [cellsB_len] at this; omega
theorem markedX_any (n : Nat) (mark : Int) (k i : Nat) (w0 : World) (h : n ≤ 4294967295) (hm : markR mark = some (i, .int .i64 k)) (hk : k ≤ 4) : Calls Try.prog 50 #[.int .u8 mark, .int .u32 n] w0 fun e w' => RowsB w0 w' e (mark :: bytesN n k) := by
  have hR := Own.start w0
  have HF := Lib.hid (show Instr.findNow (.int .u8) (.int .u8 mark) marksE.toList 0 = some (some (i, .int .i64 k)) by rw [mark_find, hm])
  have HT := Lib.hid (bytesN_take n k 4 hk)
  have hl4 := bytesN_len n 4
  clear hm
  go_enter Try.func50, Try.ntmps50
  go_wp2_with (first
    | ((with_reducible apply wpList_buildS hR); exact rfl; exact rfl; (exact bB1 _); clear hR; intro gb w hR; simp only [List.set_cons_succ, List.set_cons_zero])
    | (go_at_call 52; refine (fourX_any n _ h).mono ?_; rintro e w' ⟨s1, v1, rfl, hO, hS1⟩; replace hR := hR.join hO; clear hO; rw [hl4] at hS1)
    | (go_at_call 51; refine (marks_any _).mono ?_; rintro e w' ⟨gm, rfl, hO⟩; have hM := hR.withM hO; clear hR hO)
    | ((with_reducible apply wpList_look hM Try.underlying86 Try.underlying5 zIntI); exact rfl; exact rfl; exact rfl; exact HF.out; (have hR := hM.own); clear hM; simp only [List.set_cons_succ, List.set_cons_zero])
    | ((with_reducible apply q_ls hR); exact rfl; (with_reducible apply t_firstRd (j := k) Try.underlying26 iByteI); (apply EvC.now; exact rfl); (apply EvC.now; exact rfl); exact (hS1.rd hR (fun r hr => List.mem_append_left _ hr) (by simp [cellsB, List.all_map, Value.oneCell'])); exact rfl; exact hk; (simp only [List.set_cons_succ, List.set_cons_zero]; exact rfl); clear hR; intro w hR)
    | ((with_reducible apply wpList_appG hR tBytesI); exact rfl; exact rfl; exact rfl; exact (slI (ns := [mark]) rfl (by simp)); (exact Les.skip _ Les.one); exact ((hS1.rd hR (fun r hr => List.mem_append_left _ hr) (by simp [cellsB, List.all_map, Value.oneCell'])).first k hk); (simp [maxLen]; omega); (simp; omega); clear hR hS1; intro s3 v3 w hR hS3; simp only [List.set_cons_succ, List.set_cons_zero]))
  go_ret
  rw [← HT.out]
  refine ⟨s3, v3, rfl, hR.drop (List.sublist_append_left _ _), ?_⟩
  have hlk : (mark :: (bytesN n 4).take k).length = 1 + k := by rw [HT.out, List.length_cons, bytesN_len]; omega
  rw [hlk]
  exact hS3.cast (by rw [Nat.mul_one]; simp [cellsB])
set_option maxHeartbeats 1000000 in
theorem lngX_any (n : Nat) (w0 : World) (h : n ≤ 4294967295) : Calls Try.prog 47 #[.int .u32 n] w0 fun e w' => RowsB w0 w' e (longN n) := by
  have hR := Own.start w0
  have H1 := Lib.hid (show cmpB .leq (n : Int) 128 = some (decide (n ≤ 128)) by simp [cmpB]; omega)
  have H2 := Lib.hid (show cmpB .lss (n : Int) 65536 = some (decide (n < 65536)) by simp [cmpB]; omega)
  have H3 := Lib.hid (show cmpB .lss (n : Int) 16777216 = some (decide (n < 16777216)) by simp [cmpB]; omega)
  by_cases h1 : n ≤ 128
  · have HV := Lib.hid (show longN n = [(n : Int)] by unfold longN; rw [if_pos h1]; simp [bytesN]; omega)
    have HC := Lib.hid (show IntKind.u8.wrap (n : Int) = (n : Int) by rw [IntKind.wrap_u8]; omega)
    rw [decide_eq_true h1] at H1
    clear h1
    go_enter Try.func47, Try.ntmps47
    go_wp2_with (first
    | ((with_reducible apply q_ls hR); exact rfl; (with_reducible apply t_cmp); (apply EvC.now; exact rfl); (apply EvC.now; exact rfl); (with_reducible first | exact H1.out | exact H2.out | exact H3.out); (simp only [List.set_cons_succ, List.set_cons_zero]; exact rfl); clear hR; intro w hR)
    | ((with_reducible apply q_ls hR); exact rfl; (with_reducible apply t_conv Try.underlying42 Try.underlying5); (apply EvC.now; exact rfl); exact HC.out; (simp only [List.set_cons_succ, List.set_cons_zero]; exact rfl); clear hR; intro w hR)
    | ((with_reducible apply wpList_buildS hR); exact rfl; exact rfl; (exact bB1 _); clear hR; intro gb w hR; simp only [List.set_cons_succ, List.set_cons_zero]))
    go_ret
    rw [HV.out]
    refine ⟨_, _, rfl, hR, ?_⟩
    exact slI (ns := [_]) rfl (by simp)
  rw [decide_eq_false h1] at H1
  by_cases h2 : n < 65536
  · have HV := Lib.hid (show longN n = 129 :: bytesN n 2 by unfold longN; rw [if_neg h1, if_pos h2])
    rw [decide_eq_true h2] at H2
    clear h1 h2
    go_enter Try.func47, Try.ntmps47
    go_wp2_with (first
        | ((with_reducible apply q_ls hR); exact rfl; (with_reducible apply t_cmp); (apply EvC.now; exact rfl); (apply EvC.now; exact rfl); (with_reducible first | exact H1.out | exact H2.out | exact H3.out); (simp only [List.set_cons_succ, List.set_cons_zero]; exact rfl); clear hR; intro w hR)
        | (go_at_call 50; refine (markedX_any n 129 2 0 _ h rfl (by decide)).mono ?_; rintro e w' ⟨s1, v1, rfl, hO, hS1⟩; replace hR := hR.join hO; clear hO))
    go_ret
    rw [HV.out]
    exact ⟨s1, v1, rfl, hR.drop (List.sublist_append_left _ _), hS1⟩
  rw [decide_eq_false h2] at H2
  by_cases h3 : n < 16777216
  · have HV := Lib.hid (show longN n = 132 :: bytesN n 3 by unfold longN; rw [if_neg h1, if_neg h2, if_pos h3])
    rw [decide_eq_true h3] at H3
    clear h1 h2 h3
    go_enter Try.func47, Try.ntmps47
    go_wp2_with (first
        | ((with_reducible apply q_ls hR); exact rfl; (with_reducible apply t_cmp); (apply EvC.now; exact rfl); (apply EvC.now; exact rfl); (with_reducible first | exact H1.out | exact H2.out | exact H3.out); (simp only [List.set_cons_succ, List.set_cons_zero]; exact rfl); clear hR; intro w hR)
        | (go_at_call 50; refine (markedX_any n 132 3 1 _ h rfl (by decide)).mono ?_; rintro e w' ⟨s1, v1, rfl, hO, hS1⟩; replace hR := hR.join hO; clear hO))
    go_ret
    rw [HV.out]
    exact ⟨s1, v1, rfl, hR.drop (List.sublist_append_left _ _), hS1⟩
  · have HV := Lib.hid (show longN n = 136 :: bytesN n 4 by unfold longN; rw [if_neg h1, if_neg h2, if_neg h3])
    rw [decide_eq_false h3] at H3
    clear h1 h2 h3
    go_enter Try.func47, Try.ntmps47
    go_wp2_with (first
        | ((with_reducible apply q_ls hR); exact rfl; (with_reducible apply t_cmp); (apply EvC.now; exact rfl); (apply EvC.now; exact rfl); (with_reducible first | exact H1.out | exact H2.out | exact H3.out); (simp only [List.set_cons_succ, List.set_cons_zero]; exact rfl); clear hR; intro w hR)
        | (go_at_call 50; refine (markedX_any n 136 4 2 _ h rfl (by decide)).mono ?_; rintro e w' ⟨s1, v1, rfl, hO, hS1⟩; replace hR := hR.join hO; clear hO))
    go_ret
    rw [HV.out]
    exact ⟨s1, v1, rfl, hR.drop (List.sublist_append_left _ _), hS1⟩
/-! ### A name -/
theorem wpList_appStr {P : Program} {ops : Array Oper} {rest : List Oper} {Q : Exit → Act → World → Prop} {tp : TypeId} {pos : String} {af : Array Edge} {gd : Option (Nat × Bool)} {ls : List Value} {ds : List Deferred} {w0 w : World} {l' : List RowT} {d : Tmp} {t u e : TypeId} {x y : Operand} {g n cap : Nat} {cur : Array Value} {xs : List Value} {s : ByteArray}
    (hR : Own w0 w ((g, cur, e) :: l')) (ht : StrTy P t u e) (hgd : Region.wanted ⟨some d, .call { callee := .builtin .append, args := #[x, y], argTypes := #[t, u] }, tp, pos, af, gd⟩ (yielded ops ls.toArray) = true)
    (hx : evalL ls x = some (.slice (some ⟨g, 0, none⟩) n cap)) (hy : evalL ls y = some (.string s)) (hS : RwIs 1 cur n cap xs) (hsm : n + s.size ≤ 1000000)
    (h : ∀ h cur' cap2 w', Own w0 w' ((h, cur', e) :: l') → RwIs 1 cur' (n + s.size) cap2 (xs ++ Lib.strCells s) → wpList P ops Q rest ⟨(ls.set d (.slice (some ⟨h, 0, none⟩) (n + s.size) cap2)).toArray, ds⟩ w') :
    wpList P ops Q (⟨some d, .call { callee := .builtin .append, args := #[x, y], argTypes := #[t, u] }, tp, pos, af, gd⟩ :: rest) ⟨ls.toArray, ds⟩ w := by
  obtain ⟨g2, cur', cap2, w', hr, hO, hS'⟩ := run_appStr (o := ⟨some d, .call { callee := .builtin .append, args := #[x, y], argTypes := #[t, u] }, tp, pos, af, gd⟩) ht hR rfl (eval_of hx) (eval_of hy) (.head) hS hsm
  exact wpList_run_value hgd hr (by rw [put_list]; exact h g2 cur' cap2 w' hO hS')
theorem strCellsS (s : ByteArray) : Lib.strCells s = cellsB (numsS s) := by
  unfold Lib.strCells cellsB numsS
  rw [List.map_map]
  rfl
theorem strCellsI {ns : List Int} (h : bytesOk ns) : Lib.strCells (strOfNums ns) = cellsB ns := by rw [strCellsS, nums_strOf h]
theorem namX_any (ts : List Int) (w0 : World) (h : bytesOk ts) (hl : ts.length ≤ 100000) : Calls Try.prog 19 #[.string (strOfNums ts)] w0 fun e w' => RowsB w0 w' e (nam18 ts) := by
  have hR := Own.start w0
  obtain ⟨ms, hms⟩ : ∃ ms, ts.take 255 = ms := ⟨_, rfl⟩
  have hbm : bytesOk ms := by rw [← hms]; exact h.take _
  have hlm : ms.length ≤ 255 := by rw [← hms, List.length_take]; omega
  have HV := Lib.hid (show nam18 ts = (ms.length : Int) :: ms by rw [← hms]; rfl)
  obtain ⟨m, hm⟩ : ∃ m, min 255 ts.length = m := ⟨_, rfl⟩
  have hmt : m ≤ ts.length := by omega
  have HM := Lib.hid (show (if (255 : Int) < (ts.length : Int) then 255 else (ts.length : Int)) = (m : Int) by split <;> omega)
  have HT := Lib.hid (show ts.take m = ms by
    rw [← hms]
    by_cases hc : 255 ≤ ts.length
    · rw [show m = 255 by omega]
    · rw [List.take_of_length_le (by omega), List.take_of_length_le (by omega)])
  have HC := Lib.hid (show IntKind.u8.wrap (ms.length : Int) = (ms.length : Int) by rw [IntKind.wrap_u8]; omega)
  have hsz := strOf_len ms
  clear hms hm
  go_enter Try.func19, Try.ntmps19
  go_upto_region 2 with (first
    | ((with_reducible apply q_ls hR); exact rfl; (with_reducible apply t_lenN Try.underlying9); (apply EvC.now; exact rfl); (simp only [List.set_cons_succ, List.set_cons_zero]; exact rfl); clear hR; intro w hR)
    | ((with_reducible apply q_ls hR); exact rfl; (with_reducible apply t_minK (m := (m : Int))); (apply EvC.now; exact rfl); (apply EvC.now; exact rfl); exact HM.out; (simp only [List.set_cons_succ, List.set_cons_zero]; exact rfl); clear hR; intro w hR)
    | ((with_reducible apply q_ls hR); exact rfl; (with_reducible apply t_takeN Try.underlying9 (k := m)); (apply EvC.now; exact rfl); (apply EvC.now; exact rfl); exact rfl; exact hmt; (simp only [List.set_cons_succ, List.set_cons_zero]; exact rfl); clear hR; intro w hR))
  rw [HT.out]
  go_wp2_with (first
    | ((with_reducible apply q_ls hR); exact rfl; (with_reducible apply t_lenN Try.underlying9); (apply EvC.now; exact rfl); (simp only [List.set_cons_succ, List.set_cons_zero]; exact rfl); clear hR; intro w hR)
    | ((with_reducible apply q_ls hR); exact rfl; (with_reducible apply t_conv Try.underlying3 Try.underlying5); (apply EvC.now; exact rfl); exact HC.out; (simp only [List.set_cons_succ, List.set_cons_zero]; exact rfl); clear hR; intro w hR)
    | ((with_reducible apply wpList_buildS hR); exact rfl; exact rfl; (exact bB1 _); clear hR; intro gb w hR; simp only [List.set_cons_succ, List.set_cons_zero])
    | ((with_reducible apply wpList_appStr hR tStrI); exact rfl; exact rfl; exact rfl; (exact (RwIs.all (k := 1) (n := 1) (c := #[Value.int .u8 (ms.length : Int)]) rfl (by decide))); (rw [hsz]; omega); clear hR; intro g2 cur2 cap2 w hR hS; simp only [List.set_cons_succ, List.set_cons_zero]))
  go_ret
  rw [HV.out]
  rw [strCellsI hbm, hsz] at hS
  have hlen : ((ms.length : Int) :: ms).length = 1 + ms.length := by rw [List.length_cons]; omega
  refine ⟨_, _, rfl, hR, ?_⟩
  rw [hlen]
  exact hS.sl
end Go.Proofs.Ytmiakniilimghaa
