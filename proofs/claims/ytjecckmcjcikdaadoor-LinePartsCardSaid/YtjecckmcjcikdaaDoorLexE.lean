







/- The contracts of lex.Upper and lex.Number. No statement of the seat is proved here. -/
import Derived.Test.YtjecckmcjcikdaaDoorLexD
import Derived.Test.YtjecckmcjcikdaaDoorMark
namespace Go.Proofs.YtjecckmcjcikdaaDoor
open Go.ChangeShapes Go.WideShapes Go.ChangeAt Go.RowKit
set_option linter.unusedVariables false
set_option linter.unusedSimpArgs false

theorem tByteL : OneTy Tryd.prog 5 := .of Tryd.underlying5 rfl (by kernel_rfl)
theorem iByteL : (Tryd.prog.info? 5).map (·.size) = some 1 := by kernel_rfl
theorem tTextL : TextTy Tryd.prog 70 5 9 := ⟨Tryd.underlying70, Tryd.underlying5, Tryd.underlying9⟩
/-- The letters so far great. -/
def upTo (s : List Int) (k : Nat) : List Int := upS (s.take k) ++ s.drop k
theorem upTo_len (s : List Int) (k : Nat) : (upTo s k).length = s.length := by unfold upTo; rw [List.length_append, upS_len, List.length_take, List.length_drop]; omega
theorem upTo_at {s : List Int} {k : Nat} {c : Int} (hk : s[k]? = some c) : (upTo s k)[k]? = some c := by
  have hl := (List.getElem?_eq_some_iff.1 hk).1
  unfold upTo
  rw [List.getElem?_append_right (by rw [upS_len, List.length_take]; omega), upS_len, List.length_take, List.getElem?_drop, Nat.min_eq_left (by omega), Nat.sub_self, Nat.add_zero, hk]
theorem upTo_more {s : List Int} {k : Nat} {c : Int} (hk : s[k]? = some c) : (upTo s k).set k (upC c) = upTo s (k + 1) := by
  obtain ⟨hl, hx⟩ := List.getElem?_eq_some_iff.1 hk
  unfold upTo
  rw [List.set_append_right _ _ (by rw [upS_len, List.length_take]; omega), upS_len, List.length_take, Nat.min_eq_left (by omega), Nat.sub_self, List.drop_eq_getElem_cons hl, List.set_cons_zero, List.take_add_one, hk]
  unfold upS
  simp
theorem upTo_same {s : List Int} {k : Nat} {c : Int} (hk : s[k]? = some c) (h : upC c = c) : upTo s k = upTo s (k + 1) := by
  rw [← upTo_more hk, h]
  apply List.ext_getElem?
  intro j
  by_cases hj : j = k
  · subst hj
    rw [List.getElem?_set_self (by rw [upTo_len]; exact (List.getElem?_eq_some_iff.1 hk).1), upTo_at hk]
  · rw [List.getElem?_set_ne (Ne.symm hj)]
theorem upTo_all (s : List Int) : upTo s s.length = upS s := by unfold upTo; simp
set_option maxHeartbeats 1000000 in
theorem upper_any {s : List Int} (hs : bytesOk s) (hl : s.length ≤ 1000000) (w0 : World) :
    Calls Tryd.prog 31 #[.string (strOfNums s)] w0 fun e w' => e = .returned (.string (strOfNums (upS s))) ∧ Below w0.heap.size w0 w' := by
  have hR := Own.start w0
  go_enter Tryd.func31, Tryd.ntmps31
  go_wp2_with (first
    | ((with_reducible apply wpList_bytesO hR Tryd.underlying9 Tryd.underlying70 Tryd.underlying5 hs); exact rfl; exact rfl; clear hR; intro g cap cur w hR hM; simp only [List.set_cons_succ, List.set_cons_zero]))
  go_loopw [10] (fun i wr => ∃ (k : Nat) (cu : Array Value), i = .int .i64 k ∧ k ≤ s.length ∧ Own w0 wr [] ∧ MarkO w0 wr [] g cap cu 5 (upTo s k)) (fun i _ => s.length - (intOf i).toNat)
  case atStart => exact ⟨0, cur, rfl, Nat.zero_le _, hR, by simpa [upTo, upS] using hM⟩
  case round =>
    clear hR hM
    obtain ⟨k, cu, rfl, hk, hR, hM⟩ := hrel
    by_cases hlt : k < s.length
    · obtain ⟨c, hc⟩ : ∃ c, s[k]? = some c := ⟨_, List.getElem?_eq_getElem hlt⟩
      obtain ⟨hc0, hc1⟩ := hs.at hc
      have HL := Lib.hid (show cmpB .lss (k : Int) (s.length : Int) = some true from congrArg some (decide_eq_true (by omega)))
      have HK := Lib.hid (show IntKind.i64.wrap ((k : Int) + 1) = ((k + 1 : Nat) : Int) by rw [IntWalk.i64_in _ (by omega)]; omega)
      have HC := Lib.hid (upTo_at hc)
      have hkl : k < (upTo s k).length := by rw [upTo_len]; exact hlt
      by_cases h1 : 97 ≤ c
      · have HA := Lib.hid (show cmpB .leq 97 c = some true from congrArg some (decide_eq_true h1))
        by_cases h2 : c ≤ 122
        · have HB := Lib.hid (show cmpB .leq c 122 = some true from congrArg some (decide_eq_true h2))
          have HS := Lib.hid (show IntKind.u8.wrap (c - 97) = c - 97 by rw [IntKind.wrap_u8]; omega)
          have HP := Lib.hid (show IntKind.u8.wrap (c - 97 + 65) = upC c by rw [IntKind.wrap_u8]; unfold upC; rw [if_pos ⟨h1, h2⟩]; omega)
          have hub : 0 ≤ upC c ∧ upC c ≤ 255 := by unfold upC; rw [if_pos ⟨h1, h2⟩]; omega
          have HU := Lib.hid (upTo_more hc)
          clear hc
          generalize upC c = u at *
          go_wp2_with (first
    | ((with_reducible apply q_ls0); exact rfl; (with_reducible apply t_cmp); (apply EvC.now; exact rfl); (apply EvC.now; exact rfl); (with_reducible first | exact HL.out | exact HA.out | exact HB.out); (simp only [List.set_cons_succ, List.set_cons_zero]; exact rfl))
    | ((with_reducible apply q_ls0); exact rfl; (with_reducible apply t_sixG (k := k) Tryd.underlying70 iByteL); (apply EvC.now; exact rfl); (apply EvC.now; exact rfl); exact rfl; exact hlt; (simp only [List.set_cons_succ, List.set_cons_zero]; exact rfl))
    | ((with_reducible apply q_ls0); exact rfl; (with_reducible apply t_cellW tByteL); (apply EvC.now; exact rfl); exact fun w' h => h ▸ hM.cell HC.out; (simp only [List.set_cons_succ, List.set_cons_zero]; exact rfl))
    | ((with_reducible apply q_ls0); exact rfl; (with_reducible apply t_numE (op := .sub)); (apply EvC.now; exact rfl); (apply EvC.now; exact rfl); exact rfl; exact HS.out; (simp only [List.set_cons_succ, List.set_cons_zero]; exact rfl))
    | ((with_reducible apply q_ls0); exact rfl; (with_reducible apply t_numE (op := .add)); (apply EvC.now; exact rfl); (apply EvC.now; exact rfl); exact rfl; (with_reducible first | exact HK.out | exact HP.out); (simp only [List.set_cons_succ, List.set_cons_zero]; exact rfl))
    | ((with_reducible apply wpList_putMark hR tByteL hM); exact rfl; exact rfl; exact rfl; exact hkl; exact hub; clear hR hM; intro w hR hM))
          go_round
          case rel => exact ⟨k + 1, _, rfl, hlt, hR, by rw [← HU.out]; exact hM⟩
          case measure => simp [intOf]; omega
        · have HB := Lib.hid (show cmpB .leq c 122 = some false from congrArg some (decide_eq_false h2))
          have HU := Lib.hid (upTo_same hc (by unfold upC; rw [if_neg (by omega)]))
          clear hc
          go_wp2_with (first
    | ((with_reducible apply q_ls0); exact rfl; (with_reducible apply t_cmp); (apply EvC.now; exact rfl); (apply EvC.now; exact rfl); (with_reducible first | exact HL.out | exact HA.out | exact HB.out); (simp only [List.set_cons_succ, List.set_cons_zero]; exact rfl))
    | ((with_reducible apply q_ls0); exact rfl; (with_reducible apply t_sixG (k := k) Tryd.underlying70 iByteL); (apply EvC.now; exact rfl); (apply EvC.now; exact rfl); exact rfl; exact hlt; (simp only [List.set_cons_succ, List.set_cons_zero]; exact rfl))
    | ((with_reducible apply q_ls0); exact rfl; (with_reducible apply t_cellW tByteL); (apply EvC.now; exact rfl); exact fun w' h => h ▸ hM.cell HC.out; (simp only [List.set_cons_succ, List.set_cons_zero]; exact rfl))
    | ((with_reducible apply q_ls0); exact rfl; (with_reducible apply t_numE (op := .sub)); (apply EvC.now; exact rfl); (apply EvC.now; exact rfl); exact rfl; exact HS.out; (simp only [List.set_cons_succ, List.set_cons_zero]; exact rfl))
    | ((with_reducible apply q_ls0); exact rfl; (with_reducible apply t_numE (op := .add)); (apply EvC.now; exact rfl); (apply EvC.now; exact rfl); exact rfl; (with_reducible first | exact HK.out | exact HP.out); (simp only [List.set_cons_succ, List.set_cons_zero]; exact rfl))
    | ((with_reducible apply wpList_putMark hR tByteL hM); exact rfl; exact rfl; exact rfl; exact hkl; exact hub; clear hR hM; intro w hR hM))
          go_round
          case rel => exact ⟨k + 1, _, rfl, hlt, hR, by rw [← HU.out]; exact hM⟩
          case measure => simp [intOf]; omega
      · have HA := Lib.hid (show cmpB .leq 97 c = some false from congrArg some (decide_eq_false h1))
        have HU := Lib.hid (upTo_same hc (by unfold upC; rw [if_neg (by omega)]))
        clear hc
        go_wp2_with (first
    | ((with_reducible apply q_ls0); exact rfl; (with_reducible apply t_cmp); (apply EvC.now; exact rfl); (apply EvC.now; exact rfl); (with_reducible first | exact HL.out | exact HA.out | exact HB.out); (simp only [List.set_cons_succ, List.set_cons_zero]; exact rfl))
    | ((with_reducible apply q_ls0); exact rfl; (with_reducible apply t_sixG (k := k) Tryd.underlying70 iByteL); (apply EvC.now; exact rfl); (apply EvC.now; exact rfl); exact rfl; exact hlt; (simp only [List.set_cons_succ, List.set_cons_zero]; exact rfl))
    | ((with_reducible apply q_ls0); exact rfl; (with_reducible apply t_cellW tByteL); (apply EvC.now; exact rfl); exact fun w' h => h ▸ hM.cell HC.out; (simp only [List.set_cons_succ, List.set_cons_zero]; exact rfl))
    | ((with_reducible apply q_ls0); exact rfl; (with_reducible apply t_numE (op := .sub)); (apply EvC.now; exact rfl); (apply EvC.now; exact rfl); exact rfl; exact HS.out; (simp only [List.set_cons_succ, List.set_cons_zero]; exact rfl))
    | ((with_reducible apply q_ls0); exact rfl; (with_reducible apply t_numE (op := .add)); (apply EvC.now; exact rfl); (apply EvC.now; exact rfl); exact rfl; (with_reducible first | exact HK.out | exact HP.out); (simp only [List.set_cons_succ, List.set_cons_zero]; exact rfl))
    | ((with_reducible apply wpList_putMark hR tByteL hM); exact rfl; exact rfl; exact rfl; exact hkl; exact hub; clear hR hM; intro w hR hM))
        go_round
        case rel => exact ⟨k + 1, _, rfl, hlt, hR, by rw [← HU.out]; exact hM⟩
        case measure => simp [intOf]; omega
    · obtain rfl : k = s.length := by omega
      have HL := Lib.hid (show cmpB .lss (s.length : Int) (s.length : Int) = some false from congrArg some (decide_eq_false (by omega)))
      have hS := hM.src
      rw [upTo_all, upS_len] at hS
      go_wp2_with (first
    | ((with_reducible apply q_ls0); exact rfl; (with_reducible apply t_cmp); (apply EvC.now; exact rfl); (apply EvC.now; exact rfl); exact HL.out; (simp only [List.set_cons_succ, List.set_cons_zero]; exact rfl))
    | ((with_reducible apply q_ls0); exact rfl; (with_reducible apply t_strW tTextL); (apply EvC.now; exact rfl); (exact fun w' h => h ▸ hS); (simp only [List.set_cons_succ, List.set_cons_zero]; exact rfl)))
      go_ret
      exact ⟨rfl, hR.below⟩
end Go.Proofs.YtjecckmcjcikdaaDoor
