
















/- Digits of numbers: the contracts of bits.Digits, disp.number, disp.signed. No statement of the seat is proved here. -/
import Derived.Test.YtpngjefdgicmiaaDoorDispN
import Derived.Deep.DeepCutAuto
import Derived.Deep.CutBlock
namespace Go.Proofs.YtpngjefdgicmiaaDoor
open Go.ChangeShapes Go.WideShapes Go.ChangeAt Go.RowKit
set_option linter.unusedVariables false
set_option linter.unusedSimpArgs false

theorem put_cellB {L : List Int} {k : Nat} {d : Int} (hk : k < L.length) : PutRel (cellsB L).toArray k [.int .u8 d] (cellsB (L.set k d)).toArray := by
  constructor
  apply Array.ext_getElem?
  intro j
  have hk' : k < (cellsB L).toArray.size := by rw [List.size_toArray, cellsB_len]; exact hk
  rw [putList_get _ _ _ _ (by simp only [List.length_cons, List.length_nil]; omega)]
  simp only [List.length_cons, List.length_nil]
  by_cases hj : j = k
  · subst hj
    rw [if_pos (by omega), Nat.sub_self]
    simp [cellsB, hk]
  · rw [if_neg (by omega)]
    simp only [cellsB, List.getElem?_toArray, List.getElem?_map]
    rw [List.getElem?_set_ne (by omega)]
theorem rep_setB (a : Nat) (t : List Int) (d : Int) : (List.replicate (a + 1) (0 : Int) ++ t).set a d = List.replicate a 0 ++ d :: t := by
  rw [List.replicate_succ', List.append_assoc, List.set_append_right _ _ (by simp)]
  simp
def hexD : List Int := [48, 49, 50, 51, 52, 53, 54, 55, 56, 57, 65, 66, 67, 68, 69, 70]
theorem lHEX : (⟨#[48, 49, 50, 51, 52, 53, 54, 55, 56, 57, 65, 66, 67, 68, 69, 70]⟩ : ByteArray) = strOfNums hexD := rfl
theorem hexD_ok : bytesOk hexD := by unfold bytesOk; decide
theorem hexD_at {d : Int} (h0 : 0 ≤ d) (h1 : d ≤ 15) : hexD[d.toNat]? = some (digN d) := by
  rcases (by omega : d = 0 ∨ d = 1 ∨ d = 2 ∨ d = 3 ∨ d = 4 ∨ d = 5 ∨ d = 6 ∨ d = 7 ∨ d = 8 ∨ d = 9 ∨ d = 10 ∨ d = 11 ∨ d = 12 ∨ d = 13 ∨ d = 14 ∨ d = 15) with rfl | rfl | rfl | rfl | rfl | rfl | rfl | rfl | rfl | rfl | rfl | rfl | rfl | rfl | rfl | rfl <;> rfl
theorem zByteO : (Tryd.prog.info? 5).map (fun i => (i.zero, i.size, i.bytes)) = some (some (Value.int .u8 0), 1, 1) := by kernel_rfl
theorem cells_rep (m : Nat) : List.replicate m (Value.int .u8 0) = cellsB (List.replicate m 0 ++ []) := by simp [cellsB]
def DigIs (m : Nat) (x : Int) (g : Nat) (w0 : World) (n i : Value) (wr : World) : Prop :=
  ∃ (c : Nat) (y : Int) (t : List Int), c ≤ m ∧ 0 ≤ y ∧ y ≤ 4294967295 ∧ n = .int .u32 y ∧ i = .int .i64 ((m : Int) - 1 - c) ∧ t.length = c ∧ bytesOk t ∧ hexN (m - c) y ++ t = hexN m x ∧
    Own w0 wr [(g, (cellsB (List.replicate (m - c) 0 ++ t)).toArray, 5)]
set_option maxHeartbeats 1000000 in
set_option maxRecDepth 100000 in
theorem dig_any (x : Int) (m : Nat) (w0 : World) (h0 : 0 ≤ x) (h1 : x ≤ 4294967295) (hm1 : 1 ≤ m) (hm8 : m ≤ 8) :
    Calls Tryd.prog 82 #[.int .u32 x, .int .i64 m] w0 fun e w' => e = .returned (.string (strOfNums (hexN m x))) ∧ Below w0.heap.size w0 w' := by
  have hR := Own.start w0
  have HMX := Lib.hid (show (if (m : Int) < 1 then 1 else (m : Int)) = m by rw [if_neg (by omega)])
  have HMN := Lib.hid (show (if 8 < (m : Int) then 8 else (m : Int)) = m by rw [if_neg (by omega)])
  go_enter Tryd.func82, Tryd.ntmps82
  go_wp2_with (first
    | ((with_reducible apply q_ls hR); exact rfl; (with_reducible apply t_maxK); (apply EvC.now; exact rfl); (apply EvC.now; exact rfl); exact HMX.out; (simp only [List.set_cons_succ, List.set_cons_zero]; exact rfl); clear hR; intro w hR)
    | ((with_reducible apply q_ls hR); exact rfl; (with_reducible apply t_minK); (apply EvC.now; exact rfl); (apply EvC.now; exact rfl); exact HMN.out; (simp only [List.set_cons_succ, List.set_cons_zero]; exact rfl); clear hR; intro w hR)
    | ((with_reducible apply q_ls hR); exact rfl; (with_reducible apply t_len Tryd.underlying78); (apply EvC.now; exact rfl); (simp only [List.set_cons_succ, List.set_cons_zero]; exact rfl); clear hR; intro w hR)
    | ((with_reducible apply wpList_makeRow hR Tryd.underlying78 zByteO rfl (by decide)); exact rfl; exact rfl; exact rfl; (omega); clear hR; intro g w hR; simp only [List.set_cons_succ, List.set_cons_zero]))
  rw [cells_rep] at hR
  go_loopw [0, 6] (DigIs m x g w0) (fun _ i _ => (intOf i + 1).toNat)
  case atStart => exact ⟨0, x, [], Nat.zero_le _, h0, h1, rfl, by simp, rfl, .nil, by simp, hR⟩
  case round =>
    clear hR HMX HMN
    obtain ⟨c, y, t, hc, hy0, hy1, rfl, rfl, ht, hto, hrel, hR⟩ := hrel
    by_cases hlt : c < m
    · obtain ⟨a, ha⟩ : ∃ a, m - c = a + 1 := ⟨m - c - 1, by omega⟩
      rw [ha] at hR hrel
      have hrel2 : hexN a (y / 16) ++ (digN (y % 16) :: t) = hexN m x := by rw [← hrel]; simp [hexN]
      clear hrel
      have HREL := Lib.hid hrel2
      have HT := Lib.hid ht
      have HA := Lib.hid ha
      have hd0 : 0 ≤ y % 16 ∧ y % 16 ≤ 15 := by omega
      have HR := Lib.hid (show y.tmod 16 = y % 16 from Int.tmod_eq_emod_of_nonneg hy0)
      have HU := Lib.hid (show IntKind.u32.wrap (y.tdiv 16) = y / 16 by rw [Int.tdiv_eq_ediv_of_nonneg hy0, IntKind.wrap_u32]; omega)
      have hu : 0 ≤ y / 16 ∧ y / 16 ≤ 4294967295 := by omega
      clear hrel2 ht ha
      generalize y / 16 = u at *
      generalize y % 16 = d at *
      have HDG := Lib.hid (hexD_at hd0.1 hd0.2)
      have HDN := Lib.hid (show d = (d.toNat : Int) by omega)
      have HIX := Lib.hid (show (m : Int) - 1 - (c : Int) = (a : Int) by have := HA.out; omega)
      have ham : a < m := by have := HA.out; omega
      have hdo : bytesOk (digN d :: t) := .cons (by unfold digN; split <;> omega) hto
      generalize digN d = dv at *
      have HPUT := Lib.hid (show PutRel (cellsB (List.replicate (a + 1) 0 ++ t)).toArray a [.int .u8 dv] (cellsB (List.replicate a 0 ++ dv :: t)).toArray by rw [← rep_setB]; exact put_cellB (by simp; omega))
      have HSZ := Lib.hid (show a + 1 ≤ (cellsB (List.replicate (a + 1) 0 ++ t)).toArray.size by rw [List.size_toArray, cellsB_len]; simp)
      go_wp2_with (first
    | ((with_reducible apply q_ls hR); exact rfl; (with_reducible apply t_rem); (apply EvC.now; exact rfl); (apply EvC.now; exact rfl); (decide); exact HR.out; (simp only [List.set_cons_succ, List.set_cons_zero]; exact rfl); clear hR; intro w hR)
    | ((with_reducible apply q_ls hR); exact rfl; (with_reducible apply t_quo); (apply EvC.now; exact rfl); (apply EvC.now; exact rfl); (decide); exact HU.out; (simp only [List.set_cons_succ, List.set_cons_zero]; exact rfl); clear hR; intro w hR)
    | ((with_reducible apply q_ls hR); exact rfl; (with_reducible apply t_atN Tryd.underlying9 hexD_ok (k := d.toNat)); (with_reducible exact lit_now lHEX); (apply EvC.now; exact rfl); exact HDN.out; exact HDG.out; (simp only [List.set_cons_succ, List.set_cons_zero]; exact rfl); clear hR; intro w hR)
    | ((with_reducible apply q_ls hR); exact rfl; (with_reducible apply t_sixG (k := a) Tryd.underlying78 iByteF); (apply EvC.now; exact rfl); (apply EvC.now; exact rfl); exact HIX.out; exact ham; (simp only [List.set_cons_succ, List.set_cons_zero]; exact rfl); clear hR; intro w hR)
    | ((with_reducible apply wpList_put1 hR tByteF); exact rfl; exact rfl; exact rfl; (focus (repeat (first | apply List.Mem.head | apply List.Mem.tail | apply List.mem_append_right))); exact HPUT.out; exact HSZ.out; exact rfl; (focus (repeat (first | apply Upd.head | apply Upd.tail))); clear hR; intro w hR))
      go_round
      case rel =>
        have e : m - (c + 1) = a := by have := HA.out; omega
        exact ⟨c + 1, u, dv :: t, hlt, hu.1, hu.2, rfl, by simp; omega, by rw [List.length_cons, HT.out], hdo, by rw [e]; exact HREL.out, by rw [e]; exact hR.drop (List.Sublist.refl _)⟩
      case measure => simp [intOf]; omega
    · obtain rfl : c = m := by omega
      rw [Nat.sub_self] at hR hrel
      subst ht
      have hl1 : t.length ≤ 1000000 := by omega
      have HREL := Lib.hid (show t = hexN t.length x from hrel)
      clear hrel
      go_wp2_with (first
    | ((with_reducible apply q_ls hR); exact rfl; (with_reducible apply t_strW tTextX); (apply EvC.now; exact rfl); (exact fun w hC => src_rowX hC (.head _) rfl hto hl1); (simp only [List.set_cons_succ, List.set_cons_zero]; exact rfl); clear hR; intro w hR))
      go_ret
      exact ⟨by rw [← HREL.out]; rfl, hR.below⟩
theorem number_any (x : Int) (m : Nat) (w0 : World) (h0 : 0 ≤ x) (h1 : x ≤ 65535) (hm1 : 1 ≤ m) (hm8 : m ≤ 8) :
    Calls Tryd.prog 64 #[.int .u16 x, .int .i64 m] w0 fun e w' => e = .returned (.string (strOfNums (hexN m x))) ∧ Below w0.heap.size w0 w' := by
  have hR := Own.start w0
  have HC := Lib.hid (show IntKind.u32.wrap x = x by rw [IntKind.wrap_u32]; omega)
  go_enter Tryd.func64, Tryd.ntmps64
  go_wp2_with (first
    | ((with_reducible apply q_ls hR); exact rfl; (with_reducible apply t_conv Tryd.underlying26 Tryd.underlying58); (apply EvC.now; exact rfl); exact HC.out; (simp only [List.set_cons_succ, List.set_cons_zero]; exact rfl); clear hR; intro w hR)
    | (go_at_call 82; refine (dig_any x m _ h0 (by omega) hm1 hm8).mono ?_; rintro e w' ⟨rfl, hb⟩; replace hR := hR.grow hb; clear hb))
  go_ret
  exact ⟨rfl, hR.below⟩
set_option maxRecDepth 100000 in
theorem signed_any (x : Int) (m : Nat) (w0 : World) (h0 : 0 ≤ x) (h1 : x ≤ 65535) (hm1 : 1 ≤ m) (hm8 : m ≤ 8) :
    Calls Tryd.prog 65 #[.int .u16 x, .int .i64 m] w0 fun e w' => e = .returned (.string (strOfNums (farN x m))) ∧ Below w0.heap.size w0 w' := by
  have hR := Own.start w0
  by_cases hs : 32767 < x
  · have HC := Lib.hid (show IntKind.i16.wrap x = x - 65536 by simp only [IntKind.wrap, IntKind.bits, IntKind.signed]; simp; omega)
    have HN := Lib.hid (show IntKind.u16.wrap (-x) = 65536 - x by rw [IntKind.wrap_u16]; omega)
    have HL := Lib.hid (show cmpB .lss (x - 65536) 0 = some true from congrArg some (decide_eq_true (by omega)))
    have HV := Lib.hid (show farN x m = [45] ++ hexN m (65536 - x) by unfold farN; rw [decide_eq_true hs]; rfl)
    have hlm := hexN_len m (65536 - x)
    go_enter Tryd.func65, Tryd.ntmps65
    go_wp2_with (first
    | ((with_reducible apply q_ls hR); exact rfl; (with_reducible apply t_conv Tryd.underlying26 Tryd.underlying92); (apply EvC.now; exact rfl); exact HC.out; (simp only [List.set_cons_succ, List.set_cons_zero]; exact rfl); clear hR; intro w hR)
    | ((with_reducible apply q_ls hR); exact rfl; (with_reducible apply t_cmp (op := .lss)); (apply EvC.now; exact rfl); (apply EvC.now; exact rfl); exact HL.out; (simp only [List.set_cons_succ, List.set_cons_zero]; exact rfl); clear hR; intro w hR)
    | ((with_reducible apply q_ls hR); exact rfl; (with_reducible apply t_neg); (apply EvC.now; exact rfl); exact HN.out; (simp only [List.set_cons_succ, List.set_cons_zero]; exact rfl); clear hR; intro w hR)
    | ((with_reducible apply q_ls hR); exact rfl; (with_reducible apply t_cat); (first | (with_reducible first | exact lit_now l32 | exact lit_now l43 | exact lit_now l44 | exact lit_now l45 | exact lit_now l58 | exact lit_now l91 | exact lit_now l93 | exact lit_now lBYTE | exact lit_now lWORD | exact lit_now lFAR | exact lit_now lLOCK | exact lit_now lREPNE | exact lit_now lREP) | (apply EvC.now; exact rfl)); (first | (with_reducible first | exact lit_now l32 | exact lit_now l43 | exact lit_now l44 | exact lit_now l45 | exact lit_now l58 | exact lit_now l91 | exact lit_now l93 | exact lit_now lBYTE | exact lit_now lWORD | exact lit_now lFAR | exact lit_now lLOCK | exact lit_now lREPNE | exact lit_now lREP) | (apply EvC.now; exact rfl)); (simp only [List.length_append, List.length_cons, List.length_nil]; omega); (simp only [List.set_cons_succ, List.set_cons_zero]; exact rfl); clear hR; intro w hR)
    | (go_at_call 64; refine (number_any (65536 - x) m _ (by omega) (by omega) hm1 hm8).mono ?_; rintro e w' ⟨rfl, hb⟩; replace hR := hR.grow hb; clear hb))
    go_ret
    exact ⟨ret_nums (by rw [HV.out]), hR.below⟩
  · have HC := Lib.hid (show IntKind.i16.wrap x = x by simp only [IntKind.wrap, IntKind.bits, IntKind.signed]; simp; omega)
    have HL := Lib.hid (show cmpB .lss x 0 = some false from congrArg some (decide_eq_false (by omega)))
    have HV := Lib.hid (show farN x m = [43] ++ hexN m x by unfold farN; rw [decide_eq_false hs]; rfl)
    have hlm := hexN_len m x
    go_enter Tryd.func65, Tryd.ntmps65
    go_wp2_with (first
    | ((with_reducible apply q_ls hR); exact rfl; (with_reducible apply t_conv Tryd.underlying26 Tryd.underlying92); (apply EvC.now; exact rfl); exact HC.out; (simp only [List.set_cons_succ, List.set_cons_zero]; exact rfl); clear hR; intro w hR)
    | ((with_reducible apply q_ls hR); exact rfl; (with_reducible apply t_cmp (op := .lss)); (apply EvC.now; exact rfl); (apply EvC.now; exact rfl); exact HL.out; (simp only [List.set_cons_succ, List.set_cons_zero]; exact rfl); clear hR; intro w hR)
    | ((with_reducible apply q_ls hR); exact rfl; (with_reducible apply t_cat); (first | (with_reducible first | exact lit_now l32 | exact lit_now l43 | exact lit_now l44 | exact lit_now l45 | exact lit_now l58 | exact lit_now l91 | exact lit_now l93 | exact lit_now lBYTE | exact lit_now lWORD | exact lit_now lFAR | exact lit_now lLOCK | exact lit_now lREPNE | exact lit_now lREP) | (apply EvC.now; exact rfl)); (first | (with_reducible first | exact lit_now l32 | exact lit_now l43 | exact lit_now l44 | exact lit_now l45 | exact lit_now l58 | exact lit_now l91 | exact lit_now l93 | exact lit_now lBYTE | exact lit_now lWORD | exact lit_now lFAR | exact lit_now lLOCK | exact lit_now lREPNE | exact lit_now lREP) | (apply EvC.now; exact rfl)); (simp only [List.length_append, List.length_cons, List.length_nil]; omega); (simp only [List.set_cons_succ, List.set_cons_zero]; exact rfl); clear hR; intro w hR)
    | (go_at_call 64; refine (number_any x m _ (by omega) (by omega) hm1 hm8).mono ?_; rintro e w' ⟨rfl, hb⟩; replace hR := hR.grow hb; clear hb))
    go_ret
    exact ⟨ret_nums (by rw [HV.out]), hR.below⟩
end Go.Proofs.YtpngjefdgicmiaaDoor
