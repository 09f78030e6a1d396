









/- The contract of package expr's one: something, and all brackets behind it. No statement of the seat is proved here. -/
import Derived.Test.YtckkgooabnlooaaDoorExpL
import Derived.Deep.LoopGhost
namespace Go.Proofs.YtckkgooabnlooaaDoor
open Go.ChangeShapes Go.WideShapes Go.ChangeAt Go.RowKit
set_option linter.unusedVariables false
set_option linter.unusedSimpArgs false
set_option maxRecDepth 100000

theorem next_ok {w : World} {v : Value} {s : St} (h : Toks w v s.l) : bytesOk (nextZ s).s := by
  unfold nextZ
  rcases hl : s.l with _ | ⟨a, r⟩
  · exact .nil
  · exact h.ok a (by rw [hl]; exact .head _)
theorem got_and {r : Rs PartZ} {f : PartZ → St → Rs PartZ} (h : (andThen r f).got) : r.got := by
  rcases r with ⟨p, s⟩ | e | _
  · trivial
  · trivial
  · exact h
/-- How far the loop over brackets behind has come. -/
def OneIs (w0 : World) (gr : Nat) (tb : TabZ) (R : List RowT) (g3 g2 : Nat) (n : Nat) (M : Rs PartZ) (k : Nat) (wr : World) : Prop :=
  ∃ (p : PartZ) (s : St) (v : Value), k ≤ n ∧ parseM tb k (.ol p) s = M ∧ Toks w0 v s.l ∧ Own w0 wr ((gr, rdr v tb s, 66) :: (g3, encPt p, 69) :: (g2, encPt zeroPart, 69) :: R)
set_option maxHeartbeats 8000000 in
theorem oneE_any {w0 : World} (hT : Tabs w0) {gr : Nat} {tb : TabZ} (hB : TabIn w0 tb) (n : Nat) (hF : ∀ k, k ≤ n → RdOk w0 gr tb [] 29 #[.pointer (some ⟨gr, 0, none⟩), .int .i64 1] (parseM tb k (.ex 1))) :
    RdOk w0 gr tb [] 59 #[.pointer (some ⟨gr, 0, none⟩)] (parseM tb (n + 1) .on) := by
  have hFirst : ∀ k, k ≤ n → RdOk w0 gr tb [] 78 #[.pointer (some ⟨gr, 0, none⟩)] (firstM tb (parseM tb k (.ex 1))) := fun k hk => firstE_any hT hB (hF k hk)
  have HF := Lib.hid hFirst
  clear hF hFirst hT hB
  intro s v w L R hgot hS hO hd hK
  have hR := hO.lead hd
  clear hO hd hK
  rw [show parseM tb (n + 1) .on s = andThen (firstM tb (parseM tb n (.ex 1)) s) fun p s1 => parseM tb n (.ol p) s1 from rfl] at hgot ⊢
  rcases hm : firstM tb (parseM tb n (.ex 1)) s with ⟨p, s1⟩ | e | _
  · rw [hm] at hgot
    have HM := Lib.hid hm
    clear hm
    rw [show andThen (Rs.ok p s1) (fun p s1 => parseM tb n (.ol p) s1) = parseM tb n (.ol p) s1 from rfl] at hgot ⊢
    generalize hM : parseM tb n (.ol p) s1 = M at hgot ⊢
    have HG := Lib.hid hgot
    have HN := Lib.hid hM
    clear hgot hM
    go_enter Tryd.func59, Tryd.ntmps59
    go_upto_region 1 with (first
    | ((with_reducible apply wpList_box hR); exact rfl; exact rfl; clear hR; intro g w hR; simp only [cS, cZ])
    | ((with_reducible apply wpList_make hR zPart); exact rfl; clear hR; intro g w hR; simp only [cS, cZ])
    | ((with_reducible apply q_ls hR); exact rfl; ((with_reducible first | apply t_part tPart) <;> (first | (focus (repeat (first | (apply EvC.gv; exact rfl; (with_reducible first | exact Imp.refl _ | (apply Imp.left; exact Imp.refl _) | (apply Imp.right; exact Imp.refl _) | (apply Imp.left; apply Imp.left; exact Imp.refl _))) | (apply EvC.now; exact rfl) | (with_reducible first | apply EvAll.cons | exact EvAll.nil))); done) | exact rfl | exact ext_part _ | (focus (repeat (first | apply List.Mem.head | apply List.Mem.tail | apply List.mem_append_right))))); (simp only [cS, cZ]; exact rfl); clear hR; intro w hR))
    generalize g = g2 at *
    go_wp2_with (first
    | ((with_reducible apply wpList_box hR); exact rfl; exact rfl; clear hR; intro g w hR; simp only [cS, cZ])
    | ((with_reducible apply wpList_make hR zPart); exact rfl; clear hR; intro g w hR; simp only [cS, cZ])
    | ((with_reducible apply q_ls hR); exact rfl; ((with_reducible first | apply t_part tPart) <;> (first | (focus (repeat (first | (apply EvC.gv; exact rfl; (with_reducible first | exact Imp.refl _ | (apply Imp.left; exact Imp.refl _) | (apply Imp.right; exact Imp.refl _) | (apply Imp.left; apply Imp.left; exact Imp.refl _))) | (apply EvC.now; exact rfl) | (with_reducible first | apply EvAll.cons | exact EvAll.nil))); done) | exact rfl | exact ext_part _ | (focus (repeat (first | apply List.Mem.head | apply List.Mem.tail | apply List.mem_append_right))))); (simp only [cS, cZ]; exact rfl); clear hR; intro w hR)
    | (go_at_call 78; refine (ansR_ok (HF.out n (Nat.le_refl _) s v _ _ _ (by rw [HM.out]; trivial) hS hR (by (focus (repeat (first | apply Del.head | apply Del.tail)))) (fun _ h => nomatch h)) HM.out).mono ?_; rintro e w' ⟨rfl, v2, hS2, hO⟩; clear hR; have hR := hO; clear hO)
    | ((with_reducible apply wpList_put hR tPart); exact rfl; exact rfl; exact rfl; (focus (repeat (first | apply List.Mem.head | apply List.Mem.tail | apply List.mem_append_right))); exact put_part _ _; exact rfl; exact Nat.le_refl 14; exact one_part _; (focus (repeat (first | apply Upd.head | apply Upd.tail))); clear hR; intro w hR))
    generalize g = g3 at *
    go_loopg [] n (OneIs w0 gr tb R g3 g2 n M)
    case atStart => exact ⟨p, s1, _, Nat.le_refl _, HN.out, hS2, hR.lead (by (focus (repeat (first | apply Del.head | apply Del.tail))))⟩
    case round =>
      clear hR HM HN hS2 hS
      obtain ⟨p, s, v1, hk, hpm, hS1, hR⟩ := hrel
      have hgot := HG.out
      rcases gk with _ | f
      · exfalso; rw [← hpm] at hgot; exact hgot
      rw [show parseM tb (f + 1) (.ol p) s = bif isZ (nextZ s) 4 sIN then andThen (firstM tb (parseM tb f (.ex 1)) s) (fun q s1 => meetR (addedZ p q) fun p' => parseM tb f (.ol p') s1) else .ok p s from rfl] at hpm
      have HI := Lib.hid (isE_any (t := nextZ s) 4 (next_ok hS1) oksIN)
      cases hb : isZ (nextZ s) 4 sIN
      · rw [hb] at hpm HI
        have HP := Lib.hid hpm
        clear hb hpm hgot
        go_wp2_with (first
    | (go_at_call 42; refine (nextE_any (hR.get (by (focus (repeat (first | apply List.Mem.head | apply List.Mem.tail | apply List.mem_append_right))))) (hS1.own hR)).mono ?_; rintro e w' ⟨rfl, hb⟩; replace hR := hR.grow hb; clear hb)
    | (go_at_call 56; refine (HI.out _).mono ?_; rintro e w' ⟨rfl, hb⟩; replace hR := hR.grow hb; clear hb)
    | ((with_reducible apply wpList_put hR tPart); exact rfl; exact rfl; exact rfl; (focus (repeat (first | apply List.Mem.head | apply List.Mem.tail | apply List.mem_append_right))); exact put_part _ _; exact rfl; exact Nat.le_refl 14; exact one_part _; (focus (repeat (first | apply Upd.head | apply Upd.tail))); clear hR; intro w hR)
    | ((with_reducible apply q_ls hR); exact rfl; ((with_reducible first | apply t_part tPart) <;> (first | (focus (repeat (first | (apply EvC.gv; exact rfl; (with_reducible first | exact Imp.refl _ | (apply Imp.left; exact Imp.refl _) | (apply Imp.right; exact Imp.refl _) | (apply Imp.left; apply Imp.left; exact Imp.refl _))) | (apply EvC.now; exact rfl) | (with_reducible first | apply EvAll.cons | exact EvAll.nil))); done) | exact rfl | exact ext_part _ | (focus (repeat (first | apply List.Mem.head | apply List.Mem.tail | apply List.mem_append_right))))); (simp only [cS, cZ]; exact rfl); clear hR; intro w hR))
        (try simp only [Exit.inBlock, Exit.then])
        exact post_row hR rfl (by rfl) (by (focus (repeat (first | apply List.Mem.head | apply List.Mem.tail | apply List.mem_append_right)))) Tryd.underlying69 rfl iPart (by rfl) (by rfl) (AnsR.mk HP.out.symm rfl hS1 ((hR.lead (by (focus (repeat (first | apply Del.head | apply Del.tail))))).drop (List.Sublist.cons_cons _ (by (focus (repeat (with_reducible first | exact List.Sublist.slnil | exact List.nil_sublist _ | exact List.Sublist.refl _ | exact List.sublist_append_right _ _ | apply List.Sublist.cons_cons | apply List.Sublist.cons | apply sub_right)))))))
      · rw [hb, cond_true] at hpm
        rw [hb] at HI
        clear hb
        rcases hm : firstM tb (parseM tb f (.ex 1)) s with ⟨q, s2⟩ | e | _
        · rw [hm] at hpm
          have HM := Lib.hid hm
          clear hm
          rw [show andThen (Rs.ok q s2) (fun q s1 => meetR (addedZ p q) fun p' => parseM tb f (.ol p') s1) = meetR (addedZ p q) fun p' => parseM tb f (.ol p') s2 from rfl] at hpm
          cases ha : addedZ p q with
          | none =>
            rw [ha] at hpm
            have HP := Lib.hid (show M = .bad 3 from hpm.symm)
            have HA := Lib.hid ha
            clear ha hpm hgot
            go_upto_region 3 with (first
    | (go_at_call 42; refine (nextE_any (hR.get (by (focus (repeat (first | apply List.Mem.head | apply List.Mem.tail | apply List.mem_append_right))))) (hS1.own hR)).mono ?_; rintro e w' ⟨rfl, hb⟩; replace hR := hR.grow hb; clear hb)
    | (go_at_call 56; refine (HI.out _).mono ?_; rintro e w' ⟨rfl, hb⟩; replace hR := hR.grow hb; clear hb))
            refine wp_region_someP hR [] (List.nil_sublist _) [1] 4 ⟨fun _ _ d _ _ h => by cases d <;> exact h⟩ (by kernel_rfl) (by kernel_rfl) (by kernel_rfl) rfl ?_
            clear hR; intro hR
            repeat (refine wpT_step rfl ?_; first
                | ((first | (with_reducible apply q_pl) | ((with_reducible apply q_gd); (first | (apply GdBy.gt; exact rfl; exact rfl) | (apply GdBy.gf; exact rfl; exact rfl) | (apply GdBy.t; exact rfl; exact rfl) | (apply GdBy.f; exact rfl; exact rfl)))); (first | ((with_reducible first | apply t_move | apply t_assign | apply t_and | apply t_or | apply t_cmp | apply t_not | apply t_part tPart) <;> (first | (focus (repeat (first | (apply EvC.gv; exact rfl; (with_reducible first | exact Imp.refl _ | (apply Imp.left; exact Imp.refl _) | (apply Imp.right; exact Imp.refl _) | (apply Imp.left; apply Imp.left; exact Imp.refl _))) | (apply EvC.now; exact rfl) | (with_reducible first | apply EvAll.cons | exact EvAll.nil))); done) | exact rfl | exact ext_part _ | (focus (repeat (first | apply List.Mem.head | apply List.Mem.tail | apply List.mem_append_right)))))); (simp only [cS, cZ]; exact rfl)))
            refine wpT_nil ?_
            repeat' (first
                      | (refine wpG_many hR (rs := [0, 2]) (by decide +kernel) rfl (fun w hR => ⟨?_, ?_, trivial⟩))
                      | (refine wpG_many hR (rs := [0]) (by decide +kernel) rfl (fun w hR => ⟨?_, trivial⟩))
                      | (refine wpG_many hR (rs := [2]) (by decide +kernel) rfl (fun w hR => ⟨?_, trivial⟩))
                      | (refine opQ hR rfl rfl (t_part tPart (EvC.now rfl) (by (focus (repeat (first | apply List.Mem.head | apply List.Mem.tail | apply List.mem_append_right)))) (ext_part _) rfl) (by (simp only [cS, cZ]; exact rfl)) ?_; clear hR; intro w hR; refine ⟨hR.drop (List.nil_sublist _), ?_⟩)
                      | (refine opCallOk Tryd.call78 rfl rfl rfl ((ansR_ok (HF.out f (by omega) s v1 _ _ _ (by rw [HM.out]; trivial) hS1 hR (by (focus (repeat (first | apply Del.head | apply Del.tail)))) (fun _ h => nomatch h)) HM.out).mono ?_); rintro en w' ⟨rfl, v2, hS2, hO⟩; refine ⟨_, rfl, hO.drop (List.nil_sublist _), ?_⟩; clear hR; have hR := hO; clear hO; simp only [cS, cZ]))
            all_goals
              refine wpG_many hR (rs := [3]) (by decide +kernel) rfl (fun w hR => ⟨?_, trivial⟩)
              refine opCallBad Tryd.call63 rfl rfl rfl ((ansO_bad (addE_any p q _) HA.out).mono ?_)
              rintro en w' ⟨rfl, hb⟩
              exact ⟨_, rfl, rfl, AnsR.no HP.out rfl ((hR.grow hb).drop (by (focus (repeat (with_reducible first | exact List.Sublist.slnil | exact List.nil_sublist _ | exact List.Sublist.refl _ | exact List.sublist_append_right _ _ | apply List.Sublist.cons_cons | apply List.Sublist.cons | apply sub_right)))))⟩
          | some p' =>
            rw [ha] at hpm
            have HP := Lib.hid (show parseM tb f (.ol p') s2 = M from hpm)
            have HA := Lib.hid ha
            clear ha hpm hgot
            go_upto_region 3 with (first
    | (go_at_call 42; refine (nextE_any (hR.get (by (focus (repeat (first | apply List.Mem.head | apply List.Mem.tail | apply List.mem_append_right))))) (hS1.own hR)).mono ?_; rintro e w' ⟨rfl, hb⟩; replace hR := hR.grow hb; clear hb)
    | (go_at_call 56; refine (HI.out _).mono ?_; rintro e w' ⟨rfl, hb⟩; replace hR := hR.grow hb; clear hb))
            refine wp_region_someP hR [] (List.nil_sublist _) [1] 4 ⟨fun _ _ d _ _ h => by cases d <;> exact h⟩ (by kernel_rfl) (by kernel_rfl) (by kernel_rfl) rfl ?_
            clear hR; intro hR
            repeat (refine wpT_step rfl ?_; first
                | ((first | (with_reducible apply q_pl) | ((with_reducible apply q_gd); (first | (apply GdBy.gt; exact rfl; exact rfl) | (apply GdBy.gf; exact rfl; exact rfl) | (apply GdBy.t; exact rfl; exact rfl) | (apply GdBy.f; exact rfl; exact rfl)))); (first | ((with_reducible first | apply t_move | apply t_assign | apply t_and | apply t_or | apply t_cmp | apply t_not | apply t_part tPart) <;> (first | (focus (repeat (first | (apply EvC.gv; exact rfl; (with_reducible first | exact Imp.refl _ | (apply Imp.left; exact Imp.refl _) | (apply Imp.right; exact Imp.refl _) | (apply Imp.left; apply Imp.left; exact Imp.refl _))) | (apply EvC.now; exact rfl) | (with_reducible first | apply EvAll.cons | exact EvAll.nil))); done) | exact rfl | exact ext_part _ | (focus (repeat (first | apply List.Mem.head | apply List.Mem.tail | apply List.mem_append_right)))))); (simp only [cS, cZ]; exact rfl)))
            refine wpT_nil ?_
            repeat' (first
                      | (refine wpG_many hR (rs := [0, 2]) (by decide +kernel) rfl (fun w hR => ⟨?_, ?_, trivial⟩))
                      | (refine wpG_many hR (rs := [0]) (by decide +kernel) rfl (fun w hR => ⟨?_, trivial⟩))
                      | (refine wpG_many hR (rs := [2]) (by decide +kernel) rfl (fun w hR => ⟨?_, trivial⟩))
                      | (refine opQ hR rfl rfl (t_part tPart (EvC.now rfl) (by (focus (repeat (first | apply List.Mem.head | apply List.Mem.tail | apply List.mem_append_right)))) (ext_part _) rfl) (by (simp only [cS, cZ]; exact rfl)) ?_; clear hR; intro w hR; refine ⟨hR.drop (List.nil_sublist _), ?_⟩)
                      | (refine opCallOk Tryd.call78 rfl rfl rfl ((ansR_ok (HF.out f (by omega) s v1 _ _ _ (by rw [HM.out]; trivial) hS1 hR (by (focus (repeat (first | apply Del.head | apply Del.tail)))) (fun _ h => nomatch h)) HM.out).mono ?_); rintro en w' ⟨rfl, v2, hS2, hO⟩; refine ⟨_, rfl, hO.drop (List.nil_sublist _), ?_⟩; clear hR; have hR := hO; clear hO; simp only [cS, cZ]))
            all_goals
              refine wpG_many hR (rs := [3]) (by decide +kernel) rfl (fun w hR => ⟨?_, trivial⟩)
              refine opCallOk Tryd.call63 rfl rfl rfl ((ansO_ok (addE_any p q _) HA.out).mono ?_)
              rintro en w' ⟨rfl, hb⟩
              refine ⟨_, rfl, (hR.grow hb).drop (List.nil_sublist _), ?_⟩
              replace hR := hR.grow hb
              clear hb
              simp only [cS, cZ]
              refine wpG_put (c := encPt p) hR tPart (i := 4) (by kernel_rfl) rfl rfl rfl (by (focus (repeat (first | apply List.Mem.head | apply List.Mem.tail | apply List.mem_append_right)))) (put_part _ _) rfl (Nat.le_refl 14) (one_part _) (by (focus (repeat (first | apply Upd.head | apply Upd.tail)))) (List.nil_sublist _) ?_
              clear hR; intro w hR
              refine wpG_endP hR (by kernel_rfl) ?_
              clear hR; intro w hR
              go_wp2_with fail
              go_roundg f
              case measure => exact Nat.lt_succ_self f
              case rel => exact ⟨p', s2, v2, by omega, HP.out, hS2, hR⟩
        · rw [hm] at hpm
          have HM := Lib.hid hm
          have HP := Lib.hid (show M = .bad e from hpm.symm)
          clear hm hpm hgot
          go_upto_region 3 with (first
    | (go_at_call 42; refine (nextE_any (hR.get (by (focus (repeat (first | apply List.Mem.head | apply List.Mem.tail | apply List.mem_append_right))))) (hS1.own hR)).mono ?_; rintro e w' ⟨rfl, hb⟩; replace hR := hR.grow hb; clear hb)
    | (go_at_call 56; refine (HI.out _).mono ?_; rintro e w' ⟨rfl, hb⟩; replace hR := hR.grow hb; clear hb))
          refine wp_region_someP hR [] (List.nil_sublist _) [1] 4 ⟨fun _ _ d _ _ h => by cases d <;> exact h⟩ (by kernel_rfl) (by kernel_rfl) (by kernel_rfl) rfl ?_
          clear hR; intro hR
          repeat (refine wpT_step rfl ?_; first
              | ((first | (with_reducible apply q_pl) | ((with_reducible apply q_gd); (first | (apply GdBy.gt; exact rfl; exact rfl) | (apply GdBy.gf; exact rfl; exact rfl) | (apply GdBy.t; exact rfl; exact rfl) | (apply GdBy.f; exact rfl; exact rfl)))); (first | ((with_reducible first | apply t_move | apply t_assign | apply t_and | apply t_or | apply t_cmp | apply t_not | apply t_part tPart) <;> (first | (focus (repeat (first | (apply EvC.gv; exact rfl; (with_reducible first | exact Imp.refl _ | (apply Imp.left; exact Imp.refl _) | (apply Imp.right; exact Imp.refl _) | (apply Imp.left; apply Imp.left; exact Imp.refl _))) | (apply EvC.now; exact rfl) | (with_reducible first | apply EvAll.cons | exact EvAll.nil))); done) | exact rfl | exact ext_part _ | (focus (repeat (first | apply List.Mem.head | apply List.Mem.tail | apply List.mem_append_right)))))); (simp only [cS, cZ]; exact rfl)))
          refine wpT_nil ?_
          repeat' (first
                    | (refine wpG_many hR (rs := [0, 2]) (by decide +kernel) rfl (fun w hR => ⟨?_, ?_, trivial⟩))
                    | (refine wpG_many hR (rs := [0]) (by decide +kernel) rfl (fun w hR => ⟨?_, trivial⟩))
                    | (refine wpG_many hR (rs := [2]) (by decide +kernel) rfl (fun w hR => ⟨?_, trivial⟩))
                    | (refine opQ hR rfl rfl (t_part tPart (EvC.now rfl) (by (focus (repeat (first | apply List.Mem.head | apply List.Mem.tail | apply List.mem_append_right)))) (ext_part _) rfl) (by (simp only [cS, cZ]; exact rfl)) ?_; clear hR; intro w hR; refine ⟨hR.drop (List.nil_sublist _), ?_⟩)
                    | (refine opCallBad Tryd.call78 rfl rfl rfl ((ansR_bad (HF.out f (by omega) s v1 _ _ _ (by rw [HM.out]; trivial) hS1 hR (by (focus (repeat (first | apply Del.head | apply Del.tail)))) (fun _ h => nomatch h)) HM.out).mono ?_); rintro en w' ⟨rfl, hO⟩; exact ⟨_, rfl, rfl, AnsR.no HP.out rfl (hO.drop (by (focus (repeat (with_reducible first | exact List.Sublist.slnil | exact List.nil_sublist _ | exact List.Sublist.refl _ | exact List.sublist_append_right _ _ | apply List.Sublist.cons_cons | apply List.Sublist.cons | apply sub_right)))))⟩))
        · exfalso; rw [hm] at hpm; rw [← hpm] at hgot; exact hgot
  · have HM := Lib.hid hm
    refine badR_ans ?_ rfl
    clear hm hgot
    go_enter Tryd.func59, Tryd.ntmps59
    go_wp2_with (first
    | ((with_reducible apply wpList_box hR); exact rfl; exact rfl; clear hR; intro g w hR; simp only [cS, cZ])
    | ((with_reducible apply wpList_make hR zPart); exact rfl; clear hR; intro g w hR; simp only [cS, cZ])
    | ((with_reducible apply q_ls hR); exact rfl; ((with_reducible first | apply t_part tPart) <;> (first | (focus (repeat (first | (apply EvC.gv; exact rfl; (with_reducible first | exact Imp.refl _ | (apply Imp.left; exact Imp.refl _) | (apply Imp.right; exact Imp.refl _) | (apply Imp.left; apply Imp.left; exact Imp.refl _))) | (apply EvC.now; exact rfl) | (with_reducible first | apply EvAll.cons | exact EvAll.nil))); done) | exact rfl | exact ext_part _ | (focus (repeat (first | apply List.Mem.head | apply List.Mem.tail | apply List.mem_append_right))))); (simp only [cS, cZ]; exact rfl); clear hR; intro w hR)
    | (go_at_call 78; refine (ansR_bad (HF.out n (Nat.le_refl _) s v _ _ _ (by rw [HM.out]; trivial) hS hR (by (focus (repeat (first | apply Del.head | apply Del.tail)))) (fun _ h => nomatch h)) HM.out).mono ?_; rintro e w' ⟨rfl, hO⟩; clear hR; have hR := hO; clear hO))
    exact ⟨rfl, rfl, hR.drop (by (focus (repeat (with_reducible first | exact List.Sublist.slnil | exact List.nil_sublist _ | exact List.Sublist.refl _ | exact List.sublist_append_right _ _ | apply List.Sublist.cons_cons | apply List.Sublist.cons | apply sub_right))))⟩
  · exfalso; rw [hm] at hgot; exact hgot
end Go.Proofs.YtckkgooabnlooaaDoor
