









/- The contracts of package iter: the next block's bytes; as a state, all of a record's. No statement of the seat is proved here. -/
import Derived.Test.YtalgadinoaeihaaItrD
import Derived.Test.YtalgadinoaeihaaDatT
namespace Go.Proofs.Ytalgadinoaeihaa
open Go.ChangeShapes Go.WideShapes Go.ChangeAt Go.RowKit
set_option linter.unusedVariables false
set_option linter.unusedSimpArgs false

def nextZ (s : SrcZ) (room : Int) : List Int × SrcZ :=
  if mayB 8 (blkR 8 s).1 = false then ([], wrongZ (blkR 8 s).2 3)
  else if room < ((min (spreadB (blkR 8 s).1).length 65537 : Nat) : Int) then ([], wrongZ (blkR 8 s).2 8)
  else (spreadB (blkR 8 s).1, (blkR 8 s).2)
theorem next_goes (s : SrcZ) (room : Int) : Goes s (nextZ s room).2 := by
  have h := blk_goes 8 s
  unfold nextZ
  split
  · exact h.trans (wrong_goes _ _)
  · split
    · exact h.trans (wrong_goes _ _)
    · exact h
theorem next_room (s : SrcZ) {room : Int} (h0 : 0 ≤ room) (h1 : room ≤ 65536) : (((nextZ s room).1.length : Nat) : Int) ≤ room := by
  unfold nextZ
  split
  · simpa using h0
  · split
    · simpa using h0
    · rename_i h
      dsimp only
      omega
theorem num2_less {s : SrcZ} (h : s.b ≠ []) (hok : s.ok) : (numZ s 2).2.b.length < s.b.length := by
  have hl := List.length_pos_iff.2 h
  have he : s.e = 0 := by
    rcases Classical.em (s.e = 0) with h2 | h2
    · exact h2
    · exact absurd (hok.2 h2) h
  show (takeZ s 2).2.b.length < s.b.length
  unfold takeZ
  split
  · rw [List.length_drop]; omega
  · unfold wrongZ
    rw [if_pos he]
    exact hl
theorem blk8_less {s : SrcZ} (h : s.b ≠ []) (hok : s.ok) (n : Nat) : (blkR (n + 1) s).2.b.length < s.b.length := by
  have h1 := num2_less h hok
  have h2 := (num_goes (numZ s 2).2 2).len
  unfold blkR
  split
  · have := (name_goes (numZ (numZ s 2).2 2).2).len
    dsimp only
    omega
  · have := (many_goes (blk_goes n) (numZ (numZ s 2).2 2).1.toNat (numZ (numZ s 2).2 2).2).len
    dsimp only
    omega
theorem next_less {s : SrcZ} (h : s.b ≠ []) (hok : s.ok) (room : Int) : (nextZ s room).2.b.length < s.b.length := by
  have h1 := blk8_less h hok 7
  unfold nextZ
  split
  · exact Nat.lt_of_le_of_lt (wrong_goes _ _).len h1
  · split
    · exact Nat.lt_of_le_of_lt (wrong_goes _ _).len h1
    · exact h1
def runG (o : Nat) : Nat → List Int → SrcZ → List Int × SrcZ
  | 0, a, s => (a, s)
  | n + 1, a, s => if s.b = [] then (a, s) else runG o n (a ++ (nextZ s ((65536 : Int) - o - a.length)).1) (nextZ s ((65536 : Int) - o - a.length)).2
theorem runG_nil {o : Nat} : ∀ (n : Nat) (a : List Int) {s : SrcZ}, s.b = [] → runG o n a s = (a, s)
  | 0, _, _, _ => rfl
  | n + 1, _, _, h => if_pos h
theorem wrong_keep {s : SrcZ} (h : s.e ≠ 0) (x : Int) : wrongZ s x = s := if_neg h
theorem runG_runI {o : Nat} : ∀ (n : Nat) (a : List Int) (s : SrcZ), s.ok → s.b.length ≤ n → o + a.length ≤ 65536 →
    (runG o n a s).2.e = (runI o n a s).2 ∧ ((runI o n a s).2 = 0 → (runG o n a s).1 = (runI o n a s).1)
  | 0, a, s, _, _, _ => ⟨rfl, fun _ => rfl⟩
  | n + 1, a, s, hok, hn, ho => by
    by_cases hb : s.b = []
    · unfold runG runI
      rw [if_pos hb, if_pos hb]
      exact ⟨rfl, fun _ => rfl⟩
    · have hl := blk8_less hb hok 7
      have hg := blk_goes 8 s
      obtain ⟨⟨z, s2⟩, hp⟩ : ∃ p, blkR 8 s = p := ⟨_, rfl⟩
      rw [hp] at hl hg
      dsimp only at hl hg
      have hok2 := hg.ok hok
      have hn2 : nextZ s ((65536 : Int) - o - a.length) = if mayB 8 z = false then ([], wrongZ s2 3) else if (65536 : Int) - o - a.length < ((min (spreadB z).length 65537 : Nat) : Int) then ([], wrongZ s2 8) else (spreadB z, s2) := by
        unfold nextZ
        rw [hp]
      have hI : runI o (n + 1) a s = if s2.e ≠ 0 then (a, s2.e) else if mayB 8 z = false then (a, 3) else if bigB z = true ∨ 65536 < o + a.length + (spreadB z).length then (a, 8) else runI o n (a ++ spreadB z) s2 := by
        conv => lhs; unfold runI
        rw [if_neg hb, hp]
      have hG : runG o (n + 1) a s = runG o n (a ++ (nextZ s ((65536 : Int) - o - a.length)).1) (nextZ s ((65536 : Int) - o - a.length)).2 := by
        conv => lhs; unfold runG
        rw [if_neg hb]
      rw [hI, hG]
      by_cases he : s2.e = 0
      · rw [if_neg (show ¬ s2.e ≠ 0 from fun h => h he)]
        by_cases hm : mayB 8 z = false
        · have hw : wrongZ s2 3 = ⟨[], 3⟩ := if_pos he
          rw [if_pos hm, hn2, if_pos hm, hw, runG_nil n _ rfl]
          exact ⟨rfl, fun h => absurd h (show ¬ (3 : Int) = 0 by decide)⟩
        · rw [if_neg hm, hn2, if_neg hm]
          by_cases hr : (65536 : Int) - o - a.length < ((min (spreadB z).length 65537 : Nat) : Int)
          · have hw : wrongZ s2 8 = ⟨[], 8⟩ := if_pos he
            rw [if_pos hr, if_pos (by unfold bigB; simp only [decide_eq_true_eq]; omega), hw, runG_nil n _ rfl]
            exact ⟨rfl, fun h => absurd h (show ¬ (8 : Int) = 0 by decide)⟩
          · rw [if_neg hr, if_neg (by unfold bigB; simp only [decide_eq_true_eq]; omega)]
            exact runG_runI n _ _ hok2 (by dsimp only; omega) (by rw [List.length_append]; dsimp only; omega)
      · rw [if_pos he, hn2]
        have hb2 := hok2.2 he
        refine ⟨?_, fun h => absurd h he⟩
        split
        · rw [wrong_keep he, runG_nil n _ hb2]
        · split
          · rw [wrong_keep he, runG_nil n _ hb2]
          · rw [runG_nil n _ hb2]
/-! ### The next block -/
set_option maxHeartbeats 1000000 in
theorem inext_any {w0 w : World} {l X sr : List RowT} {g : Nat} {cs : Array Value} {s : SrcZ} (hO : Own w0 w l) (hd : Les [(g, cs, 69)] l X) (hY : ∀ r ∈ sr, r ∈ X) (hS : SrcObj w0 sr cs s) (hok : s.ok) (hl : s.b.length ≤ 1000000) (room : Int) (h0 : 0 ≤ room) (h1 : room ≤ 65536) :
    Calls Try.prog 31 #[.pointer (some ⟨g, 0, none⟩), .int .i64 room] w fun e w' => ∃ v sn, e = .returned v ∧ ThenS w0 g (sn ++ X) sr (nextZ s room).2 w' ∧ SrcR sn v (nextZ s room).1 := by
  have hgo := (blk_goes 8 s).ok hok
  obtain ⟨⟨z, s2⟩, hp⟩ : ∃ p, blkR 8 s = p := ⟨_, rfl⟩
  have HN := Lib.hid (show nextZ s room = if mayB 8 z = false then ([], wrongZ s2 3) else if room < ((min (spreadB z).length 65537 : Nat) : Int) then ([], wrongZ s2 8) else (spreadB z, s2) by
    unfold nextZ
    rw [hp])
  obtain ⟨Z, hZ⟩ : ∃ Z, nextZ s room = Z := ⟨_, rfl⟩
  rw [hZ] at HN ⊢
  have HP := Lib.hid hp
  rw [hp] at hgo
  dsimp only at hgo
  clear hp hZ
  go_enter Try.func31, Try.ntmps31
  go_wp2_with fail
  refine (iread_any 8 (by decide) w0 w l X sr g cs s hO hd hY hS hok hl).mono ?_
  rintro e wB ⟨d, sn, ms, rfl, ⟨cs2, hO2, hS2⟩, hMk, hB, _⟩
  rw [HP.out] at hS2 hB
  dsimp only at hS2 hB
  have hBw := hB _ _ _ hO2 (fun r hr => .tail _ (List.mem_append_left _ hr)) hMk
  have hI3 := hBw.isK
  have hYX : ∀ r ∈ sr, r ∈ sn ++ X := fun r hr => List.mem_append_right _ (hY r hr)
  clear hO hd hS hB hMk
  have hR := Own.start wB
  obtain ⟨t, v, x⟩ := d
  dsimp only at hI3
  have HMAY := Lib.hid (fun (w1 : World) (r : List RowT) (hO : Own wB w1 r) => itrMay_any (hBw.own hO))
  dsimp only at HMAY
  cases hm : mayB 8 z
  · rw [hm] at HMAY
    have HE := Lib.hid (HN.out.trans (if_pos hm))
    go_upto_if 10 with (first
    | ((with_reducible apply wpList_make hR zBlk); exact rfl; clear hR; intro g5 w hR; simp only [List.set_cons_succ, List.set_cons_zero])
    | ((with_reducible apply wpList_put hR tBlk); exact rfl; exact rfl; exact rfl; (focus (repeat (first | apply List.Mem.head | apply List.Mem.tail | apply List.mem_append_right))); exact put_blk _ rfl _ _ _; exact rfl; simp [encK]; exact one_blk _ hI3.1 hI3.2; (focus (repeat (first | apply Upd.head | apply Upd.tail))); clear hR; intro w hR)
    | (go_at_call 10; refine (HMAY.out _ _ hR).mono ?_; rintro e w' ⟨rfl, hb⟩; replace hR := hR.grow hb; clear hb)
    | ((with_reducible apply q_ls hR); exact rfl; ((with_reducible first | apply t_addr (fRec _ (by decide)) | apply t_addr (fBlk _ (by decide)) | apply t_one tByteR | apply t_one tSlR | apply t_one tIntR | apply t_one tBlks | apply t_part tBlk) <;> (first | (apply EvC.gv; exact rfl; (with_reducible first | exact Imp.refl _ | (apply Imp.left; exact Imp.refl _) | (apply Imp.right; exact Imp.refl _) | (apply Imp.left; apply Imp.left; exact Imp.refl _))) | (apply EvC.now; exact rfl) | exact rfl | (with_reducible exact EvAll.nil) | (focus (repeat (first | apply EvAll.cons | exact EvAll.nil | (apply EvC.gv; exact rfl; (with_reducible first | exact Imp.refl _ | (apply Imp.left; exact Imp.refl _) | (apply Imp.right; exact Imp.refl _) | (apply Imp.left; apply Imp.left; exact Imp.refl _))) | (apply EvC.now; exact rfl))); done) | exact ext_blk _ _ _ | (focus (repeat (first | apply List.Mem.head | apply List.Mem.tail | apply List.mem_append_right))))); (simp only [List.set_cons_succ, List.set_cons_zero]; exact rfl); clear hR; intro w hR))
    refine wp_cond_at (nm := true) rfl (by simp) (fun _ => ?_) (fun h => absurd h (by decide))
    have hJ := hO2.join hR
    clear hO2 hR
    go_wp2_with (first
    | (go_at_call 44; refine (wrongX_any hJ (Les.tail Les.one) (fun r hr => .tail _ (hYX r hr)) hS2 hgo 3 (by decide) (by decide) (by decide)).mono ?_; rintro e w' ⟨rfl, hT⟩; clear hJ))
    go_ret
    rw [HE.out]
    exact ⟨_, (g5, encK t v x, 25) :: sn, rfl, hT, SrcR.noneI _⟩
  · rw [hm] at HMAY
    have HE := Lib.hid (HN.out.trans (if_neg (by rw [hm]; decide)))
    have HSZ := Lib.hid (fun (w1 : World) (r : List RowT) (hO : Own wB w1 r) => itrSize_any (hBw.own hO) hm)
    dsimp only at HSZ
    obtain ⟨q, hq⟩ : ∃ q, min (spreadB z).length 65537 = q := ⟨_, rfl⟩
    rw [hq] at HSZ HE
    go_upto_if 10 with (first
    | ((with_reducible apply wpList_make hR zBlk); exact rfl; clear hR; intro g5 w hR; simp only [List.set_cons_succ, List.set_cons_zero])
    | ((with_reducible apply wpList_put hR tBlk); exact rfl; exact rfl; exact rfl; (focus (repeat (first | apply List.Mem.head | apply List.Mem.tail | apply List.mem_append_right))); exact put_blk _ rfl _ _ _; exact rfl; simp [encK]; exact one_blk _ hI3.1 hI3.2; (focus (repeat (first | apply Upd.head | apply Upd.tail))); clear hR; intro w hR)
    | (go_at_call 10; refine (HMAY.out _ _ hR).mono ?_; rintro e w' ⟨rfl, hb⟩; replace hR := hR.grow hb; clear hb)
    | ((with_reducible apply q_ls hR); exact rfl; ((with_reducible first | apply t_addr (fRec _ (by decide)) | apply t_addr (fBlk _ (by decide)) | apply t_one tByteR | apply t_one tSlR | apply t_one tIntR | apply t_one tBlks | apply t_part tBlk) <;> (first | (apply EvC.gv; exact rfl; (with_reducible first | exact Imp.refl _ | (apply Imp.left; exact Imp.refl _) | (apply Imp.right; exact Imp.refl _) | (apply Imp.left; apply Imp.left; exact Imp.refl _))) | (apply EvC.now; exact rfl) | exact rfl | (with_reducible exact EvAll.nil) | (focus (repeat (first | apply EvAll.cons | exact EvAll.nil | (apply EvC.gv; exact rfl; (with_reducible first | exact Imp.refl _ | (apply Imp.left; exact Imp.refl _) | (apply Imp.right; exact Imp.refl _) | (apply Imp.left; apply Imp.left; exact Imp.refl _))) | (apply EvC.now; exact rfl))); done) | exact ext_blk _ _ _ | (focus (repeat (first | apply List.Mem.head | apply List.Mem.tail | apply List.mem_append_right))))); (simp only [List.set_cons_succ, List.set_cons_zero]; exact rfl); clear hR; intro w hR))
    refine wp_cond_at (nm := false) rfl (by simp) (fun h => absurd h (by decide)) (fun _ => ?_)
    go_upto_if 16 with (first
    | (go_at_call 11; refine (HSZ.out _ _ hR).mono ?_; rintro e w' ⟨rfl, hb⟩; replace hR := hR.grow hb; clear hb)
    | ((with_reducible apply q_ls hR); exact rfl; ((with_reducible first | apply t_addr (fRec _ (by decide)) | apply t_addr (fBlk _ (by decide)) | apply t_one tByteR | apply t_one tSlR | apply t_one tIntR | apply t_one tBlks | apply t_part tBlk) <;> (first | (apply EvC.gv; exact rfl; (with_reducible first | exact Imp.refl _ | (apply Imp.left; exact Imp.refl _) | (apply Imp.right; exact Imp.refl _) | (apply Imp.left; apply Imp.left; exact Imp.refl _))) | (apply EvC.now; exact rfl) | exact rfl | (with_reducible exact EvAll.nil) | (focus (repeat (first | apply EvAll.cons | exact EvAll.nil | (apply EvC.gv; exact rfl; (with_reducible first | exact Imp.refl _ | (apply Imp.left; exact Imp.refl _) | (apply Imp.right; exact Imp.refl _) | (apply Imp.left; apply Imp.left; exact Imp.refl _))) | (apply EvC.now; exact rfl))); done) | exact ext_blk _ _ _ | (focus (repeat (first | apply List.Mem.head | apply List.Mem.tail | apply List.mem_append_right))))); (simp only [List.set_cons_succ, List.set_cons_zero]; exact rfl); clear hR; intro w hR))
    by_cases hrm : room < (q : Int)
    · refine wp_cond_at (nm := true) rfl (by simp [hrm]) (fun _ => ?_) (fun h => absurd h (by decide))
      have HF := Lib.hid (HE.out.trans (if_pos hrm))
      have hJ := hO2.join hR
      clear hO2 hR
      go_wp2_with (first
    | (go_at_call 44; refine (wrongX_any hJ (Les.tail Les.one) (fun r hr => .tail _ (hYX r hr)) hS2 hgo 8 (by decide) (by decide) (by decide)).mono ?_; rintro e w' ⟨rfl, hT⟩; clear hJ))
      go_ret
      rw [HF.out]
      exact ⟨_, (g5, encK t v x, 25) :: sn, rfl, hT, SrcR.noneI _⟩
    · refine wp_cond_at (nm := false) rfl (by simp; omega) (fun h => absurd h (by decide)) (fun _ => ?_)
      have HF := Lib.hid (HE.out.trans (if_neg hrm))
      have hspo := hBw.spread_ok
      have hsl : (spreadB z).length ≤ 100000 := by omega
      have HSP := Lib.hid (fun (w1 : World) (r : List RowT) (hO : Own wB w1 r) => ispread_any 8 z hm hsl _ w1 (hBw.own hO))
      dsimp only at HSP
      go_wp2_with (first
    | (go_at_call 18; refine (HSP.out _ _ hR).mono ?_; rintro e w' ⟨s3, v3, rfl, hO, hS3⟩; replace hR := hR.join hO; clear hO)
    | ((with_reducible apply q_ls hR); exact rfl; ((with_reducible first | apply t_addr (fRec _ (by decide)) | apply t_addr (fBlk _ (by decide)) | apply t_one tByteR | apply t_one tSlR | apply t_one tIntR | apply t_one tBlks | apply t_part tBlk) <;> (first | (apply EvC.gv; exact rfl; (with_reducible first | exact Imp.refl _ | (apply Imp.left; exact Imp.refl _) | (apply Imp.right; exact Imp.refl _) | (apply Imp.left; apply Imp.left; exact Imp.refl _))) | (apply EvC.now; exact rfl) | exact rfl | (with_reducible exact EvAll.nil) | (focus (repeat (first | apply EvAll.cons | exact EvAll.nil | (apply EvC.gv; exact rfl; (with_reducible first | exact Imp.refl _ | (apply Imp.left; exact Imp.refl _) | (apply Imp.right; exact Imp.refl _) | (apply Imp.left; apply Imp.left; exact Imp.refl _))) | (apply EvC.now; exact rfl))); done) | exact ext_blk _ _ _ | (focus (repeat (first | apply List.Mem.head | apply List.Mem.tail | apply List.mem_append_right))))); (simp only [List.set_cons_succ, List.set_cons_zero]; exact rfl); clear hR; intro w hR))
      have hJ := hO2.join hR
      go_ret
      rw [HF.out]
      refine ⟨_, s3 ++ ((g5, encK t v x, 25) :: sn), rfl, ⟨cs2, hJ.perm ?_, hS2⟩, fun wb w2 l2 hO hs => hS3.srcR hspo wb w2 l2 hO (fun r hr => hs r (List.mem_append_left _ hr))⟩
      simp only [List.append_assoc, List.cons_append, List.nil_append]
      exact (List.perm_middle.symm.trans (List.Perm.append_left s3 (List.Perm.swap _ _ _)))
end Go.Proofs.Ytalgadinoaeihaa
