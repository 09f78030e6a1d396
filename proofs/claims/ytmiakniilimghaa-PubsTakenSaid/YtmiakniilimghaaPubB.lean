









/- The contracts of package pubs: the records. No statement of the seat is proved here. -/
import Derived.Test.YtmiakniilimghaaPubA
import Derived.Deep.DeepCutAuto
import Derived.Deep.CutBlock
namespace Go.Proofs.Ytmiakniilimghaa
open Go.ChangeShapes Go.WideShapes Go.ChangeAt Go.RowKit
set_option linter.unusedVariables false
set_option linter.unusedSimpArgs false

theorem flat_more {α : Type} {f : α → List Int} {l : List α} {k : Nat} {x : α} (h : l[k]? = some x) : (l.take (k + 1)).flatMap f = (l.take k).flatMap f ++ f x := by
  rw [List.take_add_one, h, List.flatMap_append]; simp
theorem flat_most {α : Type} {f : α → List Int} {m : Nat} (hf : ∀ x, (f x).length ≤ m) : ∀ (l : List α), (l.flatMap f).length ≤ m * l.length
  | [] => by simp
  | x :: l => by
    have h1 := flat_most hf l
    have h2 := hf x
    rw [List.flatMap_cons, List.length_append, List.length_cons, Nat.mul_succ]; omega
theorem taks_okP {ts : List (List Int)} (h : ∀ t ∈ ts, bytesOk t) : bytesOk (ts.flatMap takB) := by
  intro n hn
  obtain ⟨t, ht, hm⟩ := List.mem_flatMap.1 hn
  exact takB_ok (h t ht) n hm
set_option maxHeartbeats 1000000 in
theorem pubExternals_any {w0 : World} (v : Value) (ts : List (List Int)) (h : Strs w0 v ts) (hn : ts.length ≤ 1000) (hnm : ∀ t ∈ ts, t.length ≤ 1000) :
    Calls Try.prog 11 #[v] w0 fun e w' => RetB w0 w' (fun v => .agg #[.int .u8 140, v]) e (ts.flatMap takB) := by
  have hR := Own.start w0
  go_enter Try.func11, Try.ntmps11
  go_wp2_with (first
    | ((with_reducible apply wpList_make hR zRec); exact rfl; clear hR; intro g w hR; simp only [List.set_cons_succ, List.set_cons_zero])
    | ((with_reducible apply q_ls hR); exact rfl; (with_reducible apply t_lenRd Try.underlying36); (apply EvC.now; exact rfl); exact h.rd; (simp only [List.set_cons_succ, List.set_cons_zero]; exact rfl); clear hR; intro w hR))
  go_loopw [3, 8] (fun b i wr => ∃ (k : Nat) (s : List RowT), i = .int .i64 k ∧ k ≤ ts.length ∧ Sl 5 1 s b ((ts.take k).flatMap takB).length (cellsB ((ts.take k).flatMap takB)) ∧ Own w0 wr (s ++ [(g, #[.int .u8 0, .slice none 0 0], 28)])) (fun _ i _ => ts.length - (intOf i).toNat)
  case atStart => exact ⟨0, [], rfl, Nat.zero_le _, Sl.nil _ _, hR⟩
  case round =>
    clear hR
    obtain ⟨k, s, rfl, hk, hS, hR⟩ := hrel
    by_cases hkl : k < ts.length
    · obtain ⟨t, ht⟩ : ∃ t, ts[k]? = some t := ⟨_, List.getElem?_eq_getElem hkl⟩
      have htm := List.mem_of_getElem? ht
      have hbt := h.ok t htm
      have hlt := hnm t htm
      have hmost := flat_most (f := takB) (m := 257) (fun t => by have := takB_len t; omega) (ts.take k)
      have hnl := takB_len t
      rw [List.length_take] at hmost
      have HM := Lib.hid (flat_more (f := takB) ht)
      obtain ⟨a, cap, rfl, hc⟩ := h.el ht
      have HC := Lib.hid (show w0.cell? (a.add (k * 1)) = some (.string (strOfNums t)) by rw [Nat.mul_one]; exact hc)
      have HN := Lib.hid (fun w => named_any t w hbt hlt)
      obtain ⟨xs, hxs⟩ : ∃ xs, (ts.take k).flatMap takB = xs := ⟨_, rfl⟩
      rw [hxs] at hS hmost HM
      have hn1 : (takB t).length ≤ 257 := by omega
      have hx1 : xs.length ≤ 257000 := by omega
      clear hc ht hxs hnl hmost
      go_wp2_with (first
    | ((with_reducible apply q_ls hR); exact rfl; (with_reducible apply t_six Try.underlying36 iStrO); (apply EvC.now; exact rfl); (apply EvC.now; exact rfl); (constructor <;> omega); (simp only [List.set_cons_succ, List.set_cons_zero]; exact rfl); clear hR; intro w hR)
    | ((with_reducible apply q_ls hR); exact rfl; (with_reducible apply t_oldCell tStrO); (apply EvC.now; exact rfl); (simpa using HC.out); (simp only [List.set_cons_succ, List.set_cons_zero]; exact rfl); clear hR; intro w hR)
    | (go_at_call 31; refine (HN.out _).mono ?_; rintro e w' ⟨s1, v1, rfl, hO, hS1⟩; replace hR := hR.join hO; clear hO)
    | ((with_reducible apply wpList_appG hR tBytesI); exact rfl; exact rfl; exact rfl; exact hS; (exact Les.skip _ (Les.head (s := s))); (exact hS1.rd hR (fun r hr => List.mem_append_left _ hr) (ones_p _)); (simp [maxLen]; omega); (simp; omega); clear hR hS; intro sx v w hR hS; simp only [List.set_cons_succ, List.set_cons_zero]))
      go_round
      case rel =>
        refine ⟨k + 1, sx, rfl, by omega, ?_, hR.drop (List.Sublist.append (List.Sublist.refl _) (List.sublist_append_right _ _))⟩
        rw [HM.out, List.length_append, cellsB_append]
        exact hS
      case measure => first | (simp [intOf]; done) | (simp [intOf]; omega)
    · have hke : ts.take k = ts := List.take_of_length_le (by omega)
      rw [hke] at hS
      go_wp2_with (first
    | ((with_reducible apply wpList_built); exact rfl; exact rfl; exact bRecC _ hS; (simp only [List.set_cons_succ, List.set_cons_zero]; exact rfl))
    | ((with_reducible apply wpList_put hR tRec); exact rfl; exact rfl; exact rfl; (focus (repeat (first | apply List.Mem.head | apply List.Mem.tail | apply List.mem_append_right))); exact put_rec _ _ _ _; exact rfl; simp; exact one_recC _ hS; (focus (repeat (first | apply Upd.head | apply Upd.tail | apply Upd.skipC))); clear hR; intro w hR))
      (try simp only [Exit.inBlock, Exit.then])
      exact post_row hR rfl (by rfl) (by (focus (repeat (first | apply List.Mem.head | apply List.Mem.tail | apply List.mem_append_right)))) Try.underlying28 rfl iRec (by rfl) (by rfl) ⟨s, _, rfl, hR.drop (List.sublist_append_left _ _), hS.srcR (taks_okP h.ok)⟩
theorem madB_most (x : ExtZ) : (madB x).length ≤ 300 := by
  have h1 := nam18_len x.nm
  have h2 := longN_len x.l
  unfold madB
  rw [List.length_append]
  split
  · simp only [List.length_cons, List.length_append, List.length_nil]; omega
  · simp only [List.length_cons]; omega
set_option maxHeartbeats 1000000 in
theorem pubCommunal_any {w0 : World} (v : Value) (l : List ExtZ) (hP : RowsAt 3 cellsExt w0 v l) (hok : ∀ p ∈ l, p.ok) (hn : l.length ≤ 1000) (hnm : ∀ p ∈ l, p.nm.length ≤ 1000) :
    Calls Try.prog 13 #[v] w0 fun e w' => RetB w0 w' (fun v => .agg #[.int .u8 176, v]) e (l.flatMap madB) := by
  have hR := Own.start w0
  go_enter Try.func13, Try.ntmps13
  go_wp2_with (first
    | ((with_reducible apply wpList_make hR zRec); exact rfl; clear hR; intro g w hR; simp only [List.set_cons_succ, List.set_cons_zero])
    | ((with_reducible apply q_ls hR); exact rfl; (with_reducible apply t_lenRd Try.underlying39); (apply EvC.now; exact rfl); exact hP; (simp only [List.set_cons_succ, List.set_cons_zero]; exact rfl); clear hR; intro w hR))
  go_loopw [3, 8] (fun b i wr => ∃ (k : Nat) (s : List RowT), i = .int .i64 k ∧ k ≤ l.length ∧ Sl 5 1 s b ((l.take k).flatMap madB).length (cellsB ((l.take k).flatMap madB)) ∧ Own w0 wr (s ++ [(g, #[.int .u8 0, .slice none 0 0], 28)])) (fun _ i _ => l.length - (intOf i).toNat)
  case atStart => exact ⟨0, [], rfl, Nat.zero_le _, Sl.nil _ _, hR⟩
  case round =>
    clear hR
    obtain ⟨k, s, rfl, hk, hS, hR⟩ := hrel
    by_cases hkl : k < l.length
    · obtain ⟨x, hx⟩ : ∃ x, l[k]? = some x := ⟨_, List.getElem?_eq_getElem hkl⟩
      have hxm := List.mem_of_getElem? hx
      have hmost := flat_most (f := madB) (m := 300) madB_most (l.take k)
      have hxl := madB_most x
      rw [List.length_take] at hmost
      have HM := Lib.hid (flat_more (f := madB) hx)
      obtain ⟨a, cap, rfl, hc⟩ := hP.el cellsExt_len hx
      have HC := Lib.hid (show ∀ j u, (encExt x).toList[j]? = some u → w0.cell? ((a.add ((k : Int).toNat * 3)).add j) = some u from fun j u hu => by rw [Int.toNat_natCast]; exact hc j u hu)
      have HN := Lib.hid (fun w => made_any x (hok x hxm) (hnm x hxm) w)
      obtain ⟨xs, hxs⟩ : ∃ xs, (l.take k).flatMap madB = xs := ⟨_, rfl⟩
      rw [hxs] at hS hmost HM
      have hx1 : xs.length ≤ 300000 := by omega
      clear hc hx hxs hmost
      go_wp2_with (first
    | ((with_reducible apply q_ls hR); exact rfl; (with_reducible apply t_six Try.underlying39 iExt); (apply EvC.now; exact rfl); (apply EvC.now; exact rfl); (constructor <;> omega); (simp only [List.set_cons_succ, List.set_cons_zero]; exact rfl); clear hR; intro w hR)
    | ((with_reducible apply q_ls hR); exact rfl; (with_reducible apply t_oldMany tExt); (apply EvC.now; exact rfl); exact HC.out; exact rfl; (simp only [List.set_cons_succ, List.set_cons_zero]; exact rfl); clear hR; intro w hR)
    | ((with_reducible apply wpList_make hR zExt); exact rfl; clear hR; intro g w hR; simp only [List.set_cons_succ, List.set_cons_zero])
    | ((with_reducible apply wpList_put hR tExt); exact rfl; exact rfl; exact rfl; (focus (repeat (first | apply List.Mem.head | apply List.Mem.tail | apply List.mem_append_right))); exact put_ext _ _; exact rfl; simp [encExt]; exact one_ext _; (focus (repeat (first | apply Upd.head | apply Upd.tail | apply Upd.skipC))); clear hR; intro w hR)
    | (go_at_call 35; refine (HN.out _).mono ?_; rintro e w' ⟨s1, v1, rfl, hO, hS1⟩; replace hR := hR.join hO; clear hO)
    | ((with_reducible apply wpList_appG hR tBytesI); exact rfl; exact rfl; exact rfl; exact hS; (exact Les.skip _ (Les.tail (Les.head (s := s)))); (exact hS1.rd hR (fun r hr => List.mem_append_left _ hr) (ones_p _)); (simp [maxLen]; omega); (simp; omega); clear hR hS; intro sx v w hR hS; simp only [List.set_cons_succ, List.set_cons_zero])
    | ((with_reducible apply q_ls hR); exact rfl; ((with_reducible first | apply t_addr (fRec _ (by decide)) | apply t_addr (fPub _ (by decide)) | apply t_addr (fExt _ (by decide)) | apply t_one tByteR | apply t_one tSlR | apply t_one tIntR | apply t_one tWordP | apply t_one tNumX | apply t_one tStrO | apply t_part tPub | apply t_part tExt) <;> (first | (apply EvC.gv; exact rfl; (with_reducible first | exact Imp.refl _ | (apply Imp.left; exact Imp.refl _) | (apply Imp.right; exact Imp.refl _) | (apply Imp.left; apply Imp.left; exact Imp.refl _))) | (apply EvC.now; exact rfl) | exact rfl | (with_reducible exact EvAll.nil) | (focus (repeat (first | apply EvAll.cons | exact EvAll.nil | (apply EvC.gv; exact rfl; (with_reducible first | exact Imp.refl _ | (apply Imp.left; exact Imp.refl _) | (apply Imp.right; exact Imp.refl _) | (apply Imp.left; apply Imp.left; exact Imp.refl _))) | (apply EvC.now; exact rfl))); done) | (first | exact ext_pub _ | exact ext_ext _) | (focus (repeat (first | apply List.Mem.head | apply List.Mem.tail | apply List.mem_append_right))))); (simp only [List.set_cons_succ, List.set_cons_zero]; exact rfl); clear hR; intro w hR))
      go_round
      case rel =>
        refine ⟨k + 1, sx, rfl, by omega, ?_, hR.drop (List.Sublist.append (List.Sublist.refl _) (by (focus (repeat (with_reducible first | exact List.Sublist.slnil | exact List.nil_sublist _ | exact List.Sublist.refl _ | exact List.sublist_append_right _ _ | apply List.Sublist.cons_cons | apply List.Sublist.cons | apply sub_rightI)))))⟩
        rw [HM.out, List.length_append, cellsB_append]
        exact hS
      case measure => first | (simp [intOf]; done) | (simp [intOf]; omega)
    · have hke : l.take k = l := List.take_of_length_le (by omega)
      rw [hke] at hS
      go_wp2_with (first
    | ((with_reducible apply wpList_built); exact rfl; exact rfl; exact bRecC _ hS; (simp only [List.set_cons_succ, List.set_cons_zero]; exact rfl))
    | ((with_reducible apply wpList_put hR tRec); exact rfl; exact rfl; exact rfl; (focus (repeat (first | apply List.Mem.head | apply List.Mem.tail | apply List.mem_append_right))); exact put_rec _ _ _ _; exact rfl; simp; exact one_recC _ hS; (focus (repeat (first | apply Upd.head | apply Upd.tail | apply Upd.skipC))); clear hR; intro w hR))
      (try simp only [Exit.inBlock, Exit.then])
      exact post_row hR rfl (by rfl) (by (focus (repeat (first | apply List.Mem.head | apply List.Mem.tail | apply List.mem_append_right)))) Try.underlying28 rfl iRec (by rfl) (by rfl) ⟨s, _, rfl, hR.drop (List.sublist_append_left _ _), hS.srcR (mads_ok fun x hx => (hok x hx).1)⟩
end Go.Proofs.Ytmiakniilimghaa
