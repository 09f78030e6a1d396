







/- The contracts of strings.CutSuffix at one letter, and of lex.based, lex.Upper. No statement of the seat is proved here. -/
import Derived.Test.YtjecckmcjcikdaaDoorLexC
import Derived.Test.YtjecckmcjcikdaaDoorByt
import Derived.Test.YtjecckmcjcikdaaDoorStrE
import Derived.Deep.DeepCutAuto
import Derived.Deep.CutBlock
namespace Go.Proofs.YtjecckmcjcikdaaDoor
open Go.ChangeShapes Go.WideShapes Go.ChangeAt Go.RowKit
set_option linter.unusedVariables false
set_option linter.unusedSimpArgs false

def endsZ (s : List Int) (x : Int) : Bool := decide (s.getLast? = some x)
theorem ends_cons {a : List Int} {y x : Int} : endsZ (a ++ [y]) x = decide (y = x) := by unfold endsZ; rw [List.getLast?_append]; simp
theorem suffix_any {s : List Int} (hs : bytesOk s) (hl : s.length ≤ 1000000) {x : Int} (hx : 0 ≤ x ∧ x ≤ 255) (w0 : World) :
    Calls Tryd.prog 52 #[.string (strOfNums s), .string (strOfNums [x])] w0 fun e w' => e = .returned (.bool (endsZ s x)) ∧ w' = w0 := by
  rcases List.eq_nil_or_concat s with rfl | ⟨a, y, rfl⟩
  · have HG := Lib.hid (show cmpB .geq (([] : List Int).length : Int) (([x] : List Int).length : Int) = some false from rfl)
    go_enter Tryd.func52, Tryd.ntmps52
    go_wp2_with (first
    | ((with_reducible apply q_ls0); exact rfl; (with_reducible apply t_lenN Tryd.underlying9); (apply EvC.now; exact rfl); (simp only [List.set_cons_succ, List.set_cons_zero]; exact rfl))
    | ((with_reducible apply q_ls0); exact rfl; (with_reducible apply t_cmp (op := .geq)); (apply EvC.now; exact rfl); (apply EvC.now; exact rfl); exact HG.out; (simp only [List.set_cons_succ, List.set_cons_zero]; exact rfl)))
    go_ret
    exact ⟨rfl, rfl⟩
  · rw [List.concat_eq_append] at *
    have hal : a.length ≤ 1000000 := by simp at hl; omega
    have hxk : bytesOk [x] := .cons hx .nil
    have hyk : bytesOk [y] := .cons (hs y (by simp)) .nil
    have HG := Lib.hid (show cmpB .geq ((a ++ [y]).length : Int) (([x] : List Int).length : Int) = some true from congrArg some (decide_eq_true (by simp; omega)))
    have HS := Lib.hid (show IntKind.i64.wrap (((a ++ [y]).length : Int) - (([x] : List Int).length : Int)) = (a.length : Int) by rw [IntWalk.i64_in _ (by simp; omega)]; simp)
    have HD := Lib.hid (show (a ++ [y]).drop a.length = [y] by simp)
    have hle : a.length ≤ (a ++ [y]).length := by simp
    have HE := Lib.hid (show decide ([y] = [x]) = endsZ (a ++ [y]) x by rw [ends_cons]; simp)
    generalize hns : a ++ [y] = ns at *
    generalize hk : a.length = k at *
    clear hns hk
    go_enter Tryd.func52, Tryd.ntmps52
    go_wp2_with (first
    | ((with_reducible apply q_ls0); exact rfl; (with_reducible apply t_lenN Tryd.underlying9); (apply EvC.now; exact rfl); (simp only [List.set_cons_succ, List.set_cons_zero]; exact rfl))
    | ((with_reducible apply q_ls0); exact rfl; (with_reducible apply t_cmp (op := .geq)); (apply EvC.now; exact rfl); (apply EvC.now; exact rfl); exact HG.out; (simp only [List.set_cons_succ, List.set_cons_zero]; exact rfl))
    | ((with_reducible apply q_ls0); exact rfl; (with_reducible apply t_numE (op := .sub)); (apply EvC.now; exact rfl); (apply EvC.now; exact rfl); exact rfl; exact HS.out; (simp only [List.set_cons_succ, List.set_cons_zero]; exact rfl))
    | ((with_reducible apply q_ls0); exact rfl; (with_reducible apply t_dropE Tryd.underlying9); (apply EvC.now; exact rfl); (apply EvC.now; exact rfl); exact rfl; exact hle; exact HD.out; (simp only [List.set_cons_succ, List.set_cons_zero]; exact rfl))
    | ((with_reducible apply q_ls0); exact rfl; (with_reducible apply t_eqE hyk hxk); (apply EvC.now; exact rfl); (apply EvC.now; exact rfl); exact HE.out; (simp only [List.set_cons_succ, List.set_cons_zero]; exact rfl)))
    all_goals go_ret
    all_goals exact ⟨by simp_all, rfl⟩
def cutZ (s : List Int) (x : Int) : List Int := if endsZ s x then s.dropLast else s
theorem cutLite_any {s : List Int} (hs : bytesOk s) (hl : s.length ≤ 1000000) {x : Int} (hx : 0 ≤ x ∧ x ≤ 255) (w0 : World) :
    Calls Tryd.prog 51 #[.string (strOfNums s), .string (strOfNums [x])] w0 fun e w' => e = .returned (.tuple #[.string (strOfNums (cutZ s x)), .bool (endsZ s x)]) ∧ w' = w0 := by
  have HC := Lib.hid (suffix_any hs hl hx)
  cases he : endsZ s x
  · have HZ := Lib.hid (show cutZ s x = s by unfold cutZ; rw [he]; rfl)
    rw [HZ.out]
    rw [he] at HC
    go_enter Tryd.func51, Tryd.ntmps51
    go_wp2_with (first
    | (go_at_call 52; refine (HC.out _).mono ?_; rintro e w' ⟨rfl, rfl⟩))
    go_ret2
    exact ⟨rfl, rfl⟩
  · have hne : s ≠ [] := by rintro rfl; exact nomatch he
    have hl1 : 1 ≤ s.length := Nat.pos_of_ne_zero fun h => hne (List.eq_nil_of_length_eq_zero h)
    have HZ := Lib.hid (show s.take (s.length - 1) = cutZ s x by unfold cutZ; rw [he, if_pos rfl, List.dropLast_eq_take])
    have HS := Lib.hid (show IntKind.i64.wrap ((s.length : Int) - (([x] : List Int).length : Int)) = ((s.length - 1 : Nat) : Int) by rw [IntWalk.i64_in _ (by simp; omega)]; simp; omega)
    have hle : s.length - 1 ≤ s.length := by omega
    rw [he] at HC
    generalize s.length - 1 = k at *
    go_enter Tryd.func51, Tryd.ntmps51
    go_wp2_with (first
    | (go_at_call 52; refine (HC.out _).mono ?_; rintro e w' ⟨rfl, rfl⟩)
    | ((with_reducible apply q_ls0); exact rfl; (with_reducible apply t_lenN Tryd.underlying9); (apply EvC.now; exact rfl); (simp only [List.set_cons_succ, List.set_cons_zero]; exact rfl))
    | ((with_reducible apply q_ls0); exact rfl; (with_reducible apply t_numE (op := .sub)); (apply EvC.now; exact rfl); (apply EvC.now; exact rfl); exact rfl; exact HS.out; (simp only [List.set_cons_succ, List.set_cons_zero]; exact rfl))
    | ((with_reducible apply q_ls0); exact rfl; (with_reducible apply t_takeE Tryd.underlying9); (apply EvC.now; exact rfl); (apply EvC.now; exact rfl); exact rfl; exact hle; exact HZ.out; (simp only [List.set_cons_succ, List.set_cons_zero]; exact rfl)))
    go_ret2
    exact ⟨rfl, rfl⟩
theorem cutL_any {s : List Int} (hs : bytesOk s) (hl : s.length ≤ 1000000) {x : Int} (hx : 0 ≤ x ∧ x ≤ 255) (w0 : World) :
    Calls Tryd.prog 49 #[.string (strOfNums s), .string (strOfNums [x])] w0 fun e w' => e = .returned (.tuple #[.string (strOfNums (cutZ s x)), .bool (endsZ s x)]) ∧ w' = w0 := by
  go_enter Tryd.func49, Tryd.ntmps49
  go_wp2_with (first
    | (go_at_call 51; refine (cutLite_any hs hl hx _).mono ?_; rintro e w' ⟨rfl, rfl⟩))
  go_ret2
  exact ⟨rfl, rfl⟩
theorem basedZ_eq (s : List Int) : basedZ s = if endsZ s 72 then (s.dropLast, 16) else if endsZ s 66 then (s.dropLast, 2) else (s, 10) := by
  unfold basedZ endsZ
  by_cases h1 : s.getLast? = some 72
  · simp [h1]
  · by_cases h2 : s.getLast? = some 66
    · simp [h2]
    · simp [h1, h2]
set_option maxHeartbeats 1000000 in
theorem based_any {s : List Int} (hs : bytesOk s) (hl : s.length ≤ 1000000) (w0 : World) :
    Calls Tryd.prog 43 #[.string (strOfNums s)] w0 fun e w' => e = .returned (.tuple #[.string (strOfNums (basedZ s).1), .int .i64 (basedZ s).2]) ∧ w' = w0 := by
  have HC := Lib.hid (cutL_any hs hl (x := 72) (by decide))
  have HD := Lib.hid (cutL_any hs hl (x := 66) (by decide))
  rw [basedZ_eq]
  cases h1 : endsZ s 72
  · cases h2 : endsZ s 66
    · rw [h1] at HC; rw [h2] at HD
      go_enter Tryd.func43, Tryd.ntmps43
      go_upto_region 4 with (first
    | (go_at_call 49; refine (HC.out _).mono ?_; rintro e w' ⟨rfl, rfl⟩))
      go_wp2_with (first
    | (go_at_call 49; refine (HD.out _).mono ?_; rintro e w' ⟨rfl, rfl⟩))
      go_ret2
      exact ⟨rfl, rfl⟩
    · have HZ := Lib.hid (show cutZ s 66 = s.dropLast by unfold cutZ; rw [h2]; rfl)
      rw [h1] at HC; rw [h2, HZ.out] at HD
      go_enter Tryd.func43, Tryd.ntmps43
      go_upto_region 4 with (first
    | (go_at_call 49; refine (HC.out _).mono ?_; rintro e w' ⟨rfl, rfl⟩))
      go_wp2_with (first
    | (go_at_call 49; refine (HD.out _).mono ?_; rintro e w' ⟨rfl, rfl⟩))
      go_ret2
      exact ⟨rfl, rfl⟩
  · have HZ := Lib.hid (show cutZ s 72 = s.dropLast by unfold cutZ; rw [h1]; rfl)
    rw [h1, HZ.out] at HC
    go_enter Tryd.func43, Tryd.ntmps43
    go_wp2_with (first
    | (go_at_call 49; refine (HC.out _).mono ?_; rintro e w' ⟨rfl, rfl⟩))
    go_ret2
    exact ⟨rfl, rfl⟩
end Go.Proofs.YtjecckmcjcikdaaDoor
