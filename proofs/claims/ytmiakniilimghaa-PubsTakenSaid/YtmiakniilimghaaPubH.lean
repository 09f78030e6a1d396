









/- Package pubs: Taken and Made. No statement of the seat is proved here. -/
import Derived.Test.YtmiakniilimghaaPubG
namespace Go.Proofs.Ytmiakniilimghaa
open Go.ChangeShapes Go.WideShapes Go.ChangeAt Go.RowKit
set_option linter.unusedVariables false
set_option linter.unusedSimpArgs false

/-! ### What the steps come to -/
theorem takZ_all : ∀ (n : Nat) (z : SrcZ), takZ n z = allZ stepT n z
  | 0, z => rfl
  | n + 1, z => by
    rw [takZ_succ, takZ_all n]
    rfl
theorem takR_all (bs : List Int) : takR bs = allQ stepT ⟨bs, 0⟩ := by
  unfold takR allQ
  rw [takZ_all]
theorem givZ_all (g s f : Int) : ∀ (n : Nat) (z : SrcZ), givZ g s f n z = allZ (stepG g s f) n z
  | 0, z => rfl
  | n + 1, z => by
    rw [givZ_succ, givZ_all g s f n]
    rfl
theorem givR_all (bs : List Int) : givR bs = allQ (stepG (givH bs).1 (givH bs).2.1 (givH bs).2.2.1) (givH bs).2.2.2 := by
  unfold givR givQ allQ
  rw [givZ_all]
theorem lessT : LessQ stepT := ⟨fun z hok hb => ⟨((name_goes z).trans (index_goes _)).ok hok, Nat.lt_of_le_of_lt (index_goes _).len (name_eats hb)⟩⟩
theorem lessG (g s f : Int) : LessQ (stepG g s f) := ⟨fun z hok hb => ⟨((name_goes z).trans ((num_goes _ 2).trans (index_goes _))).ok hok, Nat.lt_of_le_of_lt ((num_goes _ 2).trans (index_goes _)).len (name_eats hb)⟩⟩
theorem madL_goes (c : Int) (z : SrcZ) : Goes z (madL c z).2 := by
  unfold madL
  split
  · exact long_goes z
  split
  · exact (long_goes z).trans (long_goes _)
  · exact wrong_goes z 3
theorem madG_goes (r : Int × SrcZ) : Goes r.2 (madG r) := by
  unfold madG
  split
  · exact wrong_goes _ 8
  · exact .refl _
theorem stepM_goes (z : SrcZ) : Goes (nameZ z).2 (stepM z).2 := (index_goes _).trans ((num_goes _ 1).trans ((madL_goes _ _).trans (madG_goes _)))
theorem lessM : LessQ stepM := ⟨fun z hok hb => ⟨((name_goes z).trans (stepM_goes z)).ok hok, Nat.lt_of_le_of_lt (stepM_goes z).len (name_eats hb)⟩⟩
theorem madL_pos {c : Int} {z : SrcZ} (hok : z.ok) : 0 ≤ (madL c z).1 := by
  unfold madL
  split
  · exact (long_range hok).1
  split
  · exact Int.mul_nonneg (long_range hok).1 (long_range ((long_goes z).ok hok)).1
  · exact Int.le_refl 0
theorem madZ_all : ∀ (n : Nat) (z : SrcZ), z.ok → (allZ stepM n z).2 = (madZ n z).2 ∧ ((madZ n z).2 = 0 → (allZ stepM n z).1 = (madZ n z).1)
  | 0, z, _ => ⟨rfl, fun _ => rfl⟩
  | n + 1, z, hok => by
    rw [madZ_succ]
    by_cases hb : z.b = []
    · rw [if_pos hb]
      have : allZ stepM (n + 1) z = ([], z.e) := if_pos hb
      rw [this]
      exact ⟨rfl, fun _ => rfl⟩
    · rw [if_neg hb, allZ_succ hb]
      have hok2 : (stepM z).2.ok := (lessM.go z hok hb).1
      have hokc : (madC z).2.ok := ((name_goes z).trans ((index_goes _).trans (num_goes _ 1))).ok hok
      obtain ⟨h1, h2⟩ := madZ_all n _ hok2
      have hs2 : (stepM z).2 = madG (madL (madC z).1 (madC z).2) := rfl
      rw [hs2] at h1 h2 ⊢
      dsimp only
      refine ⟨h1, fun h0 => ?_⟩
      rw [h2 h0]
      have hp := madL_pos (c := (madC z).1) hokc
      have hv : (stepM z).1 = ⟨(nameZ z).1, (madC z).1, ((madL (madC z).1 (madC z).2).1 % 4294967296).toNat⟩ := rfl
      rw [hv]
      by_cases hbig : 1048576 < (madL (madC z).1 (madC z).2).1
      · exfalso
        obtain ⟨e, he, hw⟩ := wrong_is ((madL_goes (madC z).1 (madC z).2).ok hokc) (x := 8) (by decide)
        have : madG (madL (madC z).1 (madC z).2) = ⟨[], e⟩ := by unfold madG; rw [if_pos hbig, hw]
        rw [this, madZ_nil] at h0
        exact he h0
      · rw [Int.emod_eq_of_lt hp (by omega)]
theorem madR_all {bs : List Int} (hb : bytesOk bs) : madR bs = allQ stepM ⟨bs, 0⟩ := by
  obtain ⟨h1, h2⟩ := madZ_all bs.length ⟨bs, 0⟩ ⟨hb, fun h => absurd rfl h⟩
  unfold madR allQ
  rw [h1]
  by_cases h0 : (madZ bs.length ⟨bs, 0⟩).2 = 0
  · rw [if_pos h0, if_pos h0, h2 h0]
  · rw [if_neg h0, if_neg h0]
theorem zPS : (Try.prog.info? 58).map (·.zero) = some (some (.pointer none)) := by kernel_rfl
theorem cPS : (Value.pointer none).cells = #[.pointer none] := rfl
theorem put_ps1 (u v : Value) : PutRel #[u] 0 [v] #[v] := ⟨rfl⟩
theorem mem_one {α : Type} {a : α} {l : List α} (h : a ∈ l) : ∀ r ∈ [a], r ∈ l := fun r hr => by rw [List.mem_singleton.1 hr]; exact h
set_option maxHeartbeats 1000000 in
theorem pubTaken_any {w0 : World} {v : Value} {bs : List Int} (h : SrcW w0 v bs) (hl : bs.length ≤ 1000000) :
    Calls Try.prog 12 #[v] w0 fun e w' => RetR 3 cellsExt w0 w' (fun v => .tuple #[v, .int .i64 (takR bs).2]) e (takR bs).1 := by
  have hR := Own.start w0
  have hok : SrcZ.ok ⟨bs, 0⟩ := ⟨h.ok, fun hn => absurd rfl hn⟩
  rw [takR_all]
  go_enter Try.func12, Try.ntmps12
  go_wp2_with fail
  refine (fromG_any hR (src_start h) (fun _ hr => nomatch hr) hl).mono ?_
  rintro e w' ⟨g, cs, sr, rfl, hO, hS⟩
  clear hR
  have hR := hO
  rw [List.append_nil] at hR
  clear hO
  go_wp2_with (first
    | ((with_reducible apply wpList_make1 hR zPS cPS); exact rfl; clear hR; intro gc w hR; simp only [List.set_cons_succ, List.set_cons_zero])
    | ((with_reducible apply wpList_put1 hR tPS); exact rfl; exact rfl; exact rfl; (focus (repeat (first | apply List.Mem.head | apply List.Mem.tail | apply List.mem_append_right))); (exact put_ps1 _ _); (simp); exact rfl; (focus (repeat (first | apply Upd.head | apply Upd.tail | apply Upd.skipC))); clear hR; intro w hR)
    | ((with_reducible apply q_ls hR); exact rfl; (with_reducible apply t_one tPS); (apply EvC.now; exact rfl); (focus (repeat (first | apply List.Mem.head | apply List.Mem.tail | apply List.mem_append_right))); exact rfl; (simp only [List.set_cons_succ, List.set_cons_zero]; exact rfl); clear hR; intro w hR)
    | ((with_reducible apply wpList_func); exact rfl; exact rfl; simp only [List.set_cons_succ, List.set_cons_zero])
    | (go_at_call 32; refine (allX_any hR (Les.tail Les.one) (fun r hr => .tail _ hr) (mem_one (.head _)) hS hok hl Try.call33 (takenC_any w0 g gc sr) lessT).mono ?_; rintro e w' ⟨s, v2, rfl, hO, hV⟩))
  go_ret2
  exact ⟨s, v2, rfl, hO, hV⟩
set_option maxHeartbeats 1000000 in
theorem pubMade_any {w0 : World} {v : Value} {bs : List Int} (h : SrcW w0 v bs) (hl : bs.length ≤ 1000000) :
    Calls Try.prog 14 #[v] w0 fun e w' => RetR 3 cellsExt w0 w' (fun v => .tuple #[v, .int .i64 (madR bs).2]) e (madR bs).1 := by
  have hR := Own.start w0
  have hok : SrcZ.ok ⟨bs, 0⟩ := ⟨h.ok, fun hn => absurd rfl hn⟩
  rw [madR_all h.ok]
  go_enter Try.func14, Try.ntmps14
  go_wp2_with fail
  refine (fromG_any hR (src_start h) (fun _ hr => nomatch hr) hl).mono ?_
  rintro e w' ⟨g, cs, sr, rfl, hO, hS⟩
  clear hR
  have hR := hO
  rw [List.append_nil] at hR
  clear hO
  go_wp2_with (first
    | ((with_reducible apply wpList_make1 hR zPS cPS); exact rfl; clear hR; intro gc w hR; simp only [List.set_cons_succ, List.set_cons_zero])
    | ((with_reducible apply wpList_put1 hR tPS); exact rfl; exact rfl; exact rfl; (focus (repeat (first | apply List.Mem.head | apply List.Mem.tail | apply List.mem_append_right))); (exact put_ps1 _ _); (simp); exact rfl; (focus (repeat (first | apply Upd.head | apply Upd.tail | apply Upd.skipC))); clear hR; intro w hR)
    | ((with_reducible apply q_ls hR); exact rfl; (with_reducible apply t_one tPS); (apply EvC.now; exact rfl); (focus (repeat (first | apply List.Mem.head | apply List.Mem.tail | apply List.mem_append_right))); exact rfl; (simp only [List.set_cons_succ, List.set_cons_zero]; exact rfl); clear hR; intro w hR)
    | ((with_reducible apply wpList_func); exact rfl; exact rfl; simp only [List.set_cons_succ, List.set_cons_zero])
    | (go_at_call 32; refine (allX_any hR (Les.tail Les.one) (fun r hr => .tail _ hr) (mem_one (.head _)) hS hok hl Try.call36 (madeC_any w0 g gc sr) lessM).mono ?_; rintro e w' ⟨s, v2, rfl, hO, hV⟩))
  go_ret2
  exact ⟨s, v2, rfl, hO, hV⟩
end Go.Proofs.Ytmiakniilimghaa
