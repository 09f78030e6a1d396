







/- The contract of lex.Number. No statement of the seat is proved here. -/
import Derived.Test.YtjecckmcjcikdaaDoorLexE
namespace Go.Proofs.YtjecckmcjcikdaaDoor
open Go.ChangeShapes Go.WideShapes Go.ChangeAt Go.RowKit
set_option linter.unusedVariables false
set_option linter.unusedSimpArgs false

def numT (o : Option Nat) : Value := .tuple #[.int .u64 ((o.getD 0 : Nat) : Int), .bool o.isSome]
theorem lDIG : (⟨#[48, 49, 50, 51, 52, 53, 54, 55, 56, 57, 65, 66, 67, 68, 69, 70]⟩ : ByteArray) = strOfNums digitsZ := rfl
theorem digitsZ_ok : bytesOk digitsZ := ascii.ok (ascii_of rfl)
theorem based_base (s : List Int) : (basedZ s).2 ≤ 16 := by
  unfold basedZ
  split
  · exact Nat.le_refl 16
  · split
    · exact (by decide : 2 ≤ 16)
    · exact (by decide : 10 ≤ 16)
theorem based_in {s : List Int} (h : ascii s) : ascii (basedZ s).1 := by
  unfold basedZ
  split
  · rw [List.dropLast_eq_take]; exact h.take _
  · split
    · rw [List.dropLast_eq_take]; exact h.take _
    · exact h
theorem based_len (s : List Int) : (basedZ s).1.length ≤ s.length := by
  unfold basedZ
  split
  · rw [List.length_dropLast]; omega
  · split
    · rw [List.length_dropLast]; omega
    · exact Nat.le_refl _
theorem numGo_drop {base n k : Nat} {s : List Int} {c : Int} (hk : s[k]? = some c) : numGo base n (s.drop k) = if idxB (digitsZ.take base) c < 0 then none else
      if mostZ < n * base + (idxB (digitsZ.take base) c).toNat then none else numGo base (n * base + (idxB (digitsZ.take base) c).toNat) (s.drop (k + 1)) := by
  obtain ⟨hl, hx⟩ := List.getElem?_eq_some_iff.1 hk
  rw [List.drop_eq_getElem_cons hl, hx]
  rfl
set_option maxHeartbeats 4000000 in
set_option maxRecDepth 100000 in
theorem number_any {s : List Int} (hs : ascii s) (hl : s.length ≤ 1000000) (w0 : World) :
    Calls Tryd.prog 37 #[.string (strOfNums s)] w0 fun e w' => e = .returned (numT (numberZ s)) ∧ Below w0.heap.size w0 w' := by
  have hR := Own.start w0
  cases s with
  | nil =>
    have HE := Lib.hid (show decide (([] : List Int) = []) = true from rfl)
    go_enter Tryd.func37, Tryd.ntmps37
    go_wp2_with (first
    | ((with_reducible apply q_ls0); exact rfl; (with_reducible apply t_eqE .nil .nil); (apply EvC.now; exact rfl); (exact lit_now (ns := []) rfl); exact HE.out; (simp only [List.set_cons_succ, List.set_cons_zero]; exact rfl)))
    go_ret2
    exact ⟨rfl, hR.below⟩
  | cons c r =>
    obtain ⟨hc0, hc1⟩ := hs c (.head _)
    have HE := Lib.hid (show decide (c :: r = []) = false from rfl)
    have HC := Lib.hid (show (c :: r)[0]? = some c from rfl)
    have HW := Lib.hid (show IntKind.i32.wrap c = c from IntWalk.i32_in _ (by omega))
    have HD := Lib.hid (digitL_any c)
    have HO := Lib.hid hs.ok
    have HU := Lib.hid (upper_any hs.ok hl)
    have hup := hs.up
    have HF := Lib.hid (based_any hup.ok (by rw [upS_len]; exact hl))
    have hnum : numberZ (c :: r) = if digitZ c then numGo (basedZ (upS (c :: r))).2 0 (basedZ (upS (c :: r))).1 else none := rfl
    rw [hnum]
    clear hnum
    have hfa := based_in hup
    have hfl := based_len (upS (c :: r))
    rw [upS_len] at hfl
    have hb16 := based_base (upS (c :: r))
    generalize hup : upS (c :: r) = u at *
    generalize hbz : basedZ u = bz at *
    obtain ⟨fig, base⟩ := bz
    dsimp only at HF hfa hfl hb16 ⊢
    clear hup hbz
    generalize hcr : c :: r = s at *
    cases hd : digitZ c
    · rw [hd] at HD
      go_enter Tryd.func37, Tryd.ntmps37
      go_wp2_with (first
    | ((with_reducible apply q_ls0); exact rfl; (with_reducible apply t_eqE HO.out .nil); (apply EvC.now; exact rfl); (exact lit_now (ns := []) rfl); exact HE.out; (simp only [List.set_cons_succ, List.set_cons_zero]; exact rfl))
    | ((with_reducible apply q_ls0); exact rfl; (with_reducible apply t_atN Tryd.underlying9 HO.out (k := 0)); (apply EvC.now; exact rfl); (apply EvC.now; exact rfl); exact rfl; exact HC.out; (simp only [List.set_cons_succ, List.set_cons_zero]; exact rfl))
    | ((with_reducible apply q_ls0); exact rfl; (with_reducible apply t_conv Tryd.underlying5 Tryd.underlying21); (apply EvC.now; exact rfl); exact HW.out; (simp only [List.set_cons_succ, List.set_cons_zero]; exact rfl))
    | (go_at_call 28; refine (HD.out _).mono ?_; rintro e w' ⟨rfl, rfl⟩))
      go_ret2
      exact ⟨rfl, hR.below⟩
    · rw [hd] at HD
      rw [if_pos rfl]
      clear hd
      have HB := Lib.hid (show IntKind.u64.wrap (base : Int) = (base : Int) from IntWalk.u64_in _ (by omega))
      have hdl : (digitsZ.take base).length = base := by rw [List.length_take]; show min base 16 = base; omega
      have hdok : bytesOk (digitsZ.take base) := digitsZ_ok.take _
      generalize hD : digitsZ.take base = D at *
      have HT := Lib.hid hD
      go_enter Tryd.func37, Tryd.ntmps37
      go_wp2_with (first
    | ((with_reducible apply q_ls0); exact rfl; (with_reducible apply t_eqE HO.out .nil); (apply EvC.now; exact rfl); (exact lit_now (ns := []) rfl); exact HE.out; (simp only [List.set_cons_succ, List.set_cons_zero]; exact rfl))
    | ((with_reducible apply q_ls0); exact rfl; (with_reducible apply t_atN Tryd.underlying9 HO.out (k := 0)); (apply EvC.now; exact rfl); (apply EvC.now; exact rfl); exact rfl; exact HC.out; (simp only [List.set_cons_succ, List.set_cons_zero]; exact rfl))
    | ((with_reducible apply q_ls0); exact rfl; (with_reducible apply t_conv Tryd.underlying5 Tryd.underlying21); (apply EvC.now; exact rfl); exact HW.out; (simp only [List.set_cons_succ, List.set_cons_zero]; exact rfl))
    | (go_at_call 28; refine (HD.out _).mono ?_; rintro e w' ⟨rfl, rfl⟩)
    | (go_at_call 31; refine (HU.out _).mono ?_; rintro e w' ⟨rfl, hb⟩; replace hR := hR.grow hb; clear hb)
    | (go_at_call 43; refine (HF.out _).mono ?_; rintro e w' ⟨rfl, rfl⟩))
      obtain ⟨w1, hw1⟩ : ∃ w1, w1 = w' := ⟨_, rfl⟩
      rw [← hw1] at hR ⊢
      clear hw1
      go_loopw [6] (fun v wr => ∃ k n : Nat, v = .int .u64 n ∧ k ≤ fig.length ∧ n ≤ mostZ ∧ wr = w1.iter (strOfNums fig) k ∧ numGo base n (fig.drop k) = numGo base 0 fig) (fun _ wr => fig.length - wr.iterPos w1.heap.size)
      case atStart => exact ⟨0, 0, rfl, Nat.zero_le _, Nat.zero_le _, rfl, rfl⟩
      case round =>
        obtain ⟨k, n, rfl, hk, hn, rfl, hgo⟩ := hrel
        clear HC HW HD HE HU HF
        by_cases hlt : k < fig.length
        · obtain ⟨x, hx⟩ : ∃ x, fig[k]? = some x := ⟨_, List.getElem?_eq_getElem hlt⟩
          obtain ⟨hx0, hx1⟩ := hfa.at hx
          have hnx := next_ascii (P := Tryd.prog) hfa.ok hx hx1 w1
          have hI := indexRune_any (s := D) hdok ⟨hx0, hx1⟩
          rw [numGo_drop hx, hD] at hgo
          have hge := idxB_ge D x
          have hlt2 := idxB_lt D x
          generalize idxB D x = d at *
          have HI := Lib.hid hI
          clear hI hx
          by_cases hd : d < 0
          · rw [if_pos hd] at hgo
            have HL := Lib.hid (show cmpB .lss d 0 = some true from congrArg some (decide_eq_true hd))
            have HG := Lib.hid hgo
            clear hgo hD
            go_wp2_with (first
    | ((with_reducible apply q_ls0); exact rfl; (with_reducible apply t_takeE Tryd.underlying9); (exact lit_now lDIG); (apply EvC.now; exact rfl); exact rfl; exact hb16; exact HT.out; (simp only [List.set_cons_succ, List.set_cons_zero]; exact rfl))
    | (go_at_call 40; refine (HI.out _).mono ?_; rintro e w' ⟨rfl, rfl⟩)
    | ((with_reducible apply q_ls0); exact rfl; (with_reducible apply t_cmp); (apply EvC.now; exact rfl); (apply EvC.now; exact rfl); exact HL.out; (simp only [List.set_cons_succ, List.set_cons_zero]; exact rfl)))
            go_ret2
            exact ⟨by rw [← HG.out]; rfl, (hR.grow (Below.iter _ _ _)).below⟩
          · rw [if_neg hd] at hgo
            obtain ⟨e, rfl⟩ := Int.eq_ofNat_of_zero_le (show 0 ≤ d by omega)
            rw [Int.toNat_natCast] at hgo
            have he16 : e < 16 := by omega
            have HL := Lib.hid (show cmpB .lss (e : Int) 0 = some false from congrArg some (decide_eq_false hd))
            have hmul : n * base ≤ mostZ * 16 := Nat.mul_le_mul hn hb16
            have HM := Lib.hid (show IntKind.u64.wrap ((n : Int) * (base : Int)) = ((n * base : Nat) : Int) by
              rw [← Int.natCast_mul]; exact IntWalk.u64_in _ (by unfold mostZ at hmul; omega))
            have HV := Lib.hid (show IntKind.u64.wrap (e : Int) = (e : Int) from IntWalk.u64_in _ (by omega))
            generalize n * base = p at *
            have HP := Lib.hid (show IntKind.u64.wrap ((p : Int) + (e : Int)) = ((p + e : Nat) : Int) by
              rw [← Int.natCast_add]; exact IntWalk.u64_in _ (by unfold mostZ at hmul; omega))
            generalize hq : p + e = q at *
            clear hmul hq
            by_cases hbig : mostZ < q
            · rw [if_pos hbig] at hgo
              have HG := Lib.hid (show cmpB .gtr (q : Int) 9007199254740992 = some true from congrArg some (decide_eq_true (by unfold mostZ at hbig; omega)))
              have HQ := Lib.hid hgo
              clear hgo hD
              go_wp2_with (first
    | ((with_reducible apply q_ls0); exact rfl; (with_reducible apply t_takeE Tryd.underlying9); (exact lit_now lDIG); (apply EvC.now; exact rfl); exact rfl; exact hb16; exact HT.out; (simp only [List.set_cons_succ, List.set_cons_zero]; exact rfl))
    | (go_at_call 40; refine (HI.out _).mono ?_; rintro e w' ⟨rfl, rfl⟩)
    | ((with_reducible apply q_ls0); exact rfl; (with_reducible apply t_conv Tryd.underlying3 Tryd.underlying28); (apply EvC.now; exact rfl); (with_reducible first | exact HB.out | exact HV.out); (simp only [List.set_cons_succ, List.set_cons_zero]; exact rfl))
    | ((with_reducible apply q_ls0); exact rfl; (with_reducible apply t_numE (op := .mul)); (apply EvC.now; exact rfl); (apply EvC.now; exact rfl); exact rfl; exact HM.out; (simp only [List.set_cons_succ, List.set_cons_zero]; exact rfl))
    | ((with_reducible apply q_ls0); exact rfl; (with_reducible apply t_numE (op := .add)); (apply EvC.now; exact rfl); (apply EvC.now; exact rfl); exact rfl; exact HP.out; (simp only [List.set_cons_succ, List.set_cons_zero]; exact rfl))
    | ((with_reducible apply q_ls0); exact rfl; (with_reducible apply t_cmp); (apply EvC.now; exact rfl); (apply EvC.now; exact rfl); (with_reducible first | exact HL.out | exact HG.out); (simp only [List.set_cons_succ, List.set_cons_zero]; exact rfl)))
              go_ret2
              exact ⟨by rw [← HQ.out]; rfl, (hR.grow (Below.iter _ _ _)).below⟩
            · rw [if_neg hbig] at hgo
              have HG := Lib.hid (show cmpB .gtr (q : Int) 9007199254740992 = some false from congrArg some (decide_eq_false (by unfold mostZ at hbig; omega)))
              have HQ := Lib.hid hgo
              clear hgo hD
              go_wp2_with (first
    | ((with_reducible apply q_ls0); exact rfl; (with_reducible apply t_takeE Tryd.underlying9); (exact lit_now lDIG); (apply EvC.now; exact rfl); exact rfl; exact hb16; exact HT.out; (simp only [List.set_cons_succ, List.set_cons_zero]; exact rfl))
    | (go_at_call 40; refine (HI.out _).mono ?_; rintro e w' ⟨rfl, rfl⟩)
    | ((with_reducible apply q_ls0); exact rfl; (with_reducible apply t_conv Tryd.underlying3 Tryd.underlying28); (apply EvC.now; exact rfl); (with_reducible first | exact HB.out | exact HV.out); (simp only [List.set_cons_succ, List.set_cons_zero]; exact rfl))
    | ((with_reducible apply q_ls0); exact rfl; (with_reducible apply t_numE (op := .mul)); (apply EvC.now; exact rfl); (apply EvC.now; exact rfl); exact rfl; exact HM.out; (simp only [List.set_cons_succ, List.set_cons_zero]; exact rfl))
    | ((with_reducible apply q_ls0); exact rfl; (with_reducible apply t_numE (op := .add)); (apply EvC.now; exact rfl); (apply EvC.now; exact rfl); exact rfl; exact HP.out; (simp only [List.set_cons_succ, List.set_cons_zero]; exact rfl))
    | ((with_reducible apply q_ls0); exact rfl; (with_reducible apply t_cmp); (apply EvC.now; exact rfl); (apply EvC.now; exact rfl); (with_reducible first | exact HL.out | exact HG.out); (simp only [List.set_cons_succ, List.set_cons_zero]; exact rfl)))
              go_roundw
              case rel => exact ⟨k + 1, q, rfl, hlt, by omega, rfl, HQ.out⟩
              case measure => simp; omega
        · obtain rfl : k = fig.length := by omega
          have hnx := next_none (P := Tryd.prog) fig w1
          rw [List.drop_length] at hgo
          have HQ := Lib.hid hgo
          clear hgo
          go_wp2_with fail
          go_ret2
          exact ⟨by rw [← HQ.out]; rfl, (hR.grow (Below.iter _ _ _)).below⟩
end Go.Proofs.YtjecckmcjcikdaaDoor
